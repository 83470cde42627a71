/-
  Walks: the pivoted problem in the model; the exact law of PivotedProblem.
-/
import Derived.Test.YthnefjllijoobaaDoorRPp
namespace Go.Proofs.YthnefjllijoobaaDoor.PW
open Go.RowKit Go.Proofs.YthnefjllijoobaaDoor
open Go.Proofs.YthnefjllijoobaaDoor.PM Go.Proofs.YthnefjllijoobaaDoor.PX

theorem FreshI.pushW {B C g cap n : Nat} {wr W3 w4 : World} {v : Value} {xs : List Int} {x : Int} (h : FreshI B wr v xs) (_hB : B ≤ wr.heap.size) (hb : Below wr.heap.size wr W3) (hn : n = xs.length)
    (hown : w4.ownsRow C 2 1 (.slice (some ⟨g, 0, none⟩) (n + 1) cap) (n + 1) (xs.map (Value.int .i64) ++ [.int .i64 x])) (hat : v.ownBlock = some g ∨ g = W3.heap.size) (hlt : g < w4.heap.size) :
    FreshI B w4 (.slice (some ⟨g, 0, none⟩) (n + 1) cap) (xs ++ [x]) := by
  obtain ⟨gv, cv, hv, hv1, hv2, _⟩ := h
  have hz := hb.size
  subst hn
  refine ⟨g, cap, by simp, ?_, hlt, ?_⟩
  · rcases hat with h1 | h1
    · rw [hv] at h1; simp [Value.ownBlock] at h1; omega
    · omega
  · have := own_base' hown
    unfold OwnI
    simpa using this
theorem FreshI.growW {B : Nat} {W wr W3 w4 : World} {v : Value} {xs : List Int} (h : FreshI B wr v xs) (hb : Below B W wr) (hB : B ≤ wr.heap.size) (h3 : Below wr.heap.size wr W3) (hgrow : W3.grownBy w4 v.ownBlock) : Below B W w4 := by
  obtain ⟨gv, cv, hv, hv1, hv2, _⟩ := h
  have hz := h3.size
  exact (hb.trans (h3.mono hB)).grown hgrow (by omega) (fun b hb' => by rw [hv] at hb'; simp [Value.ownBlock] at hb'; omega)
/-- While a number is appended to a fresh list. -/
structure ApI (W1 W w' : World) (L : Nat) (xs : List Int) (x : Int) (v' : Value) (h : Nat) (b1 b2 : Bool) : Prop where
  low : b2 = false → Below W.heap.size W w'
  box : b1 = true → b2 = false → w'.cell? ⟨h, 0, none⟩ = some (.int .i64 x)
  fin : b2 = true → FreshI W1.heap.size w' v' (xs ++ [x]) ∧ Below W1.heap.size W1 w' ∧ ∃ g cap, v' = .slice (some ⟨g, 0, none⟩) (L + 1) cap
theorem ApI.box_ {W1 W w' : World} {L h : Nat} {xs : List Int} {x : Int} {v' : Value} (hR : ApI W1 W w' L xs x v' h false false) : ApI W1 W (w'.alloc (.cells #[.int .i64 x] 2)) L xs x v' w'.heap.size true false :=
  ⟨fun _ => (hR.low rfl).trans (((Below.refl _ _).alloc (Nat.le_refl _) _).mono (hR.low rfl).size), fun _ _ => by simp, fun e => (by cases e)⟩
theorem ApI.app_ {W1 W w' w'' : World} {L h g cap : Nat} {xs : List Int} {x : Int} {v v' : Value} (hR : ApI W1 W w' L xs x v' h true false) (hF : FreshI W1.heap.size W v xs) (hB : Below W1.heap.size W1 W) (hL : L = xs.length)
    (hown : w''.ownsRow 0 2 1 (.slice (some ⟨g, 0, none⟩) (L + 1) cap) (L + 1) (xs.map (Value.int .i64) ++ [.int .i64 x])) (hgrow : w'.grownBy w'' v.ownBlock) (hat : v.ownBlock = some g ∨ g = w'.heap.size) (hgl : g < w''.heap.size) :
    ApI W1 W w'' L xs x (.slice (some ⟨g, 0, none⟩) (L + 1) cap) h true true :=
  ⟨fun e => (by cases e), fun _ e => (by cases e), fun _ => ⟨hF.pushW hB.size (hR.low rfl) hL hown hat hgl, hF.growW hB hB.size (hR.low rfl) hgrow, g, cap, rfl⟩⟩
/-- While a number is appended to the list of a problem behind a variable. -/
structure PqR (wB W w' : World) (B N k : Nat) (v q : Value) (R : List (List Int)) (S : List Int) (x : Int) (us : List Value) (q' : Value) (h : Nat) (b1 b2 b3 : Bool) : Prop where
  low : b2 = false → Below W.heap.size W w'
  box : b1 = true → b2 = false → w'.cell? ⟨h, 0, none⟩ = some (.int .i64 x)
  app : b2 = true → b3 = false → ∃ w3 g2 cap, q' = .slice (some ⟨g2, 0, none⟩) (k + 1) cap ∧ Below W.heap.size W w3 ∧ w'.ownsRow 0 2 1 (.slice (some ⟨g2, 0, none⟩) (k + 1) cap) (k + 1) (S.map (Value.int .i64) ++ [.int .i64 x]) ∧
    w3.grownBy w' q.ownBlock ∧ (q.ownBlock = some g2 ∨ g2 = w3.heap.size) ∧ g2 < w'.heap.size
  fin : b3 = true → PgG B w' N v q' R (S ++ [x]) us ∧ Below B wB w'
theorem PqR.box_ {wB W w' : World} {B N k h : Nat} {v q q' : Value} {R : List (List Int)} {S : List Int} {x : Int} {us : List Value} (hR : PqR wB W w' B N k v q R S x us q' h false false false) :
    PqR wB W (w'.alloc (.cells #[.int .i64 x] 2)) B N k v q R S x us q' w'.heap.size true false false :=
  ⟨fun _ => (hR.low rfl).trans (((Below.refl _ _).alloc (Nat.le_refl _) _).mono (hR.low rfl).size), fun _ _ => by simp, fun e => (by cases e), fun e => (by cases e)⟩
theorem PqR.app_ {wB W w' w'' : World} {B N k h g2 cap : Nat} {v q q' : Value} {R : List (List Int)} {S : List Int} {x : Int} {us : List Value} (hR : PqR wB W w' B N k v q R S x us q' h true false false)
    (hown : w''.ownsRow 0 2 1 (.slice (some ⟨g2, 0, none⟩) (k + 1) cap) (k + 1) (S.map (Value.int .i64) ++ [.int .i64 x])) (hgrow : w'.grownBy w'' q.ownBlock) (hat : q.ownBlock = some g2 ∨ g2 = w'.heap.size) (hgl : g2 < w''.heap.size) :
    PqR wB W w'' B N k v q R S x us (.slice (some ⟨g2, 0, none⟩) (k + 1) cap) h true true false :=
  ⟨fun e => (by cases e), fun _ e => (by cases e), fun _ _ => ⟨w', g2, cap, rfl, hR.low rfl, hown, hgrow, hat, hgl⟩, fun e => (by cases e)⟩
theorem PqR.store_ {wB W w' : World} {B N k h g2 cap : Nat} {v q : Value} {R : List (List Int)} {S : List Int} {x : Int} {us : List Value} (hR : PqR wB W w' B N k v q R S x us (.slice (some ⟨g2, 0, none⟩) (k + 1) cap) h true true false)
    (hP : PgG B W N v q R S us) (hk : S.length = k) (hwB : Below B wB W) :
    PqR wB W (w'.setCell ⟨N, 1, none⟩ (.slice (some ⟨g2, 0, none⟩) (k + 1) cap)) B N k v q R S x us (.slice (some ⟨g2, 0, none⟩) (k + 1) cap) h true true true := by
  obtain ⟨w3, g3, cap3, hv, hlow, hown, hgrow, hat, hgl⟩ := hR.app rfl rfl
  simp only [Value.slice.injEq, Option.some.injEq, Addr.mk.injEq, and_true, true_and] at hv
  obtain ⟨rfl, rfl⟩ := hv
  exact ⟨fun e => (by cases e), fun _ e => (by cases e), fun _ e => (by cases e), fun _ => ⟨hP.numF hlow hk hown hgrow hat hgl, pvG_low hwB hP.BN hP.lt hlow hgrow (fun b hb => (hP.qb b hb).1)⟩⟩
def sK (g : Nat → Int) (k : Nat) : List Int := (List.range k).map g
theorem sK_succ (g : Nat → Int) (k : Nat) : sK g (k + 1) = sK g k ++ [g k] := by simp [sK, List.range_succ]
theorem sK_length (g : Nat → Int) (k : Nat) : (sK g k).length = k := by simp [sK]

set_option maxRecDepth 100000 in
set_option maxHeartbeats 8000000 in
theorem specPivotedProblem_any (m q : Value) (M : List (List Int)) (Q : List Int) (s : Int) (w : World) (h1 : PM.Rows w m M) (h2 : Ints w q Q) :
    Calls Tryd.prog 22 #[.agg #[m, q], .int .i64 s] w (OutP w (ppOut M Q s)) := by
  have hmx : Tryd.prog.follows .mixedOrders = true := by kernel_rfl
  have hpv := fun (w' : World) (h : Below w.heap.size w w') => specPivotOf_any m q M Q s w' (h1.below h) (h2.below h)
  obtain ⟨a1, c1, rfl, _⟩ := h1
  obtain ⟨a2, c2, rfl, _⟩ := h2
  by_cases hc : (pvOut M Q s).c = 0
  case neg =>
    rw [ppOut_e1 hc]
    have HP := Lib.hid hpv
    clear hpv
    generalize pvOut M Q s = o at *
    obtain ⟨D, R, S, c0⟩ := o
    dsimp only at hc ⊢
    have hcb : (c0 == 0) = false := by simpa using hc
    go_enter Tryd.func22, Tryd.ntmps22
    go_wp2_with fail
    refine (HP.out _ (by (repeat' (first | (with_reducible exact Below.refl _ _) | (with_reducible assumption) | (with_reducible refine Below.alloc ?_ ?_ _) | (with_reducible refine Below.drew ?_) | (with_reducible refine below_drewN ?_ _) | (with_reducible refine Below.setCell ?_ ?_ _) | (with_reducible refine Below.trans ?_ (Below.mono (by with_reducible assumption) ?_)) | (with_reducible exact Below.size (by with_reducible assumption)) | go_size)))).mono ?_; rintro e w1 ⟨a, c, a', c', us, rfl, hM, hb1⟩
    dsimp only
    have hw1 : Below w.heap.size w w1 := by (repeat' (first | (with_reducible exact Below.refl _ _) | (with_reducible assumption) | (with_reducible refine Below.alloc ?_ ?_ _) | (with_reducible refine Below.drew ?_) | (with_reducible refine below_drewN ?_ _) | (with_reducible refine Below.setCell ?_ ?_ _) | (with_reducible refine Below.trans ?_ (Below.mono (by with_reducible assumption) ?_)) | (with_reducible exact Below.size (by with_reducible assumption)) | go_size))
    have hl : w.heap.size + 1 < w1.heap.size := by have := hb1.size; simp at this; omega
    have y0 : w1.cell? ⟨w.heap.size + 1, 0, none⟩ = some (.slice none 0 0) := (hb1.cell (p := ⟨w.heap.size + 1, 0, none⟩) (by simp)).trans (by simp)
    have y1 : w1.cell? ⟨w.heap.size + 1, 1, none⟩ = some (.slice none 0 0) := (hb1.cell (p := ⟨w.heap.size + 1, 1, none⟩) (by simp)).trans (by simp)
    have y3 : ∀ o, w1.frozen? ⟨w.heap.size + 1, o, none⟩ = false := fun o => (hb1.frozen (p := ⟨w.heap.size + 1, o, none⟩) (by simp)).trans (by simp)
    clear hM hb1
    go_wp2_with fail
    refine bodyPost_ret (v := .tuple #[.agg #[.slice none 0 0, .slice none 0 0], .int .i64 c0]) (by simp [*, results, Tryd.results22, go_sem]) rfl ?_
    exact outP_err (by (repeat' (first | (with_reducible exact Below.refl _ _) | (with_reducible assumption) | (with_reducible refine Below.alloc ?_ ?_ _) | (with_reducible refine Below.drew ?_) | (with_reducible refine below_drewN ?_ _) | (with_reducible refine Below.setCell ?_ ?_ _) | (with_reducible refine Below.trans ?_ (Below.mono (by with_reducible assumption) ?_)) | (with_reducible exact Below.size (by with_reducible assumption)) | go_size)))
  obtain ⟨hp, hs0, hs1, hD, ho⟩ := pvOut_facts hc
  rw [ho] at hpv
  have HP := Lib.hid hpv
  have hn1 := (isPB_facts hp).1
  have hn5 := (isPB_facts hp).2.1
  have HW := Lib.hid (fun v q w h1 h2 => l04Whole_any v q M.length (pvR M s) (pvS M Q s) (pvD M s) w h1 h2 hn1 hn5 hD (fun i k => pvR_bd hp s i k) (fun k => pvS_bd hp s k))
  have HI := Lib.hid (And.intro (tabP_I64 hp s) (sideP_I64 hp s))
  have hDB : -9223372036854775808 ≤ pvD M s ∧ pvD M s ≤ 9223372036854775807 := by have := sgD_bd (dt M.length (colS M s)) (pv_dtD hp s); unfold Bd at this; unfold pvD; omega
  have HBR := Lib.hid (fun i k => pvR_bd hp s i k)
  have HBS := Lib.hid (fun k => pvS_bd hp s k)
  have HE2 := Lib.hid (fun h2 => ppOut_e2 (M := M) (Q := Q) (s := s) hc h2)
  have HE3 := Lib.hid (fun h2 h3 => ppOut_e3 (M := M) (Q := Q) (s := s) hc h2 h3)
  have HOK := Lib.hid (fun h2 h3 => ppOut_ok (M := M) (Q := Q) (s := s) hc h2 h3)
  obtain ⟨o, hoo⟩ : ∃ o, o = ppOut M Q s := ⟨_, rfl⟩
  rw [← hoo] at HE2 HE3 HOK ⊢
  have HRD := Lib.hid (show ∀ i k, (pvR M s i k).tdiv (pvD M s) = ppR M s i k from fun _ _ => rfl)
  have HSD := Lib.hid (show ∀ i, (pvS M Q s i).tdiv (pvD M s) = ppS M Q s i from fun _ => rfl)
  obtain ⟨hDB1, hDB2⟩ := hDB
  clear hc hp hs0 hs1 ho hpv hoo
  generalize whB M.length (pvR M s) (pvS M Q s) (pvD M s) = B at *
  generalize pvD M s = D at *
  generalize pvR M s = f at *
  generalize pvS M Q s = g at *
  generalize ppR M s = f' at *
  generalize ppS M Q s = g' at *
  obtain ⟨n, hn⟩ : ∃ n, n = M.length := ⟨_, rfl⟩
  go_enter Tryd.func22, Tryd.ntmps22
  go_wp2_with fail
  refine (HP.out _ (by (repeat' (first | (with_reducible exact Below.refl _ _) | (with_reducible assumption) | (with_reducible refine Below.alloc ?_ ?_ _) | (with_reducible refine Below.drew ?_) | (with_reducible refine below_drewN ?_ _) | (with_reducible refine Below.setCell ?_ ?_ _) | (with_reducible refine Below.trans ?_ (Below.mono (by with_reducible assumption) ?_)) | (with_reducible exact Below.size (by with_reducible assumption)) | go_size)))).mono ?_; rintro e w1 ⟨a, c, a', c', us, rfl, hM, hb1⟩
  dsimp only at hM ⊢
  rw [tab_length, row_length] at hM ⊢
  rw [← hn] at HW HI HE3 HOK hM hn1 hn5 ⊢
  have hw1 : Below w.heap.size w w1 := by (repeat' (first | (with_reducible exact Below.refl _ _) | (with_reducible assumption) | (with_reducible refine Below.alloc ?_ ?_ _) | (with_reducible refine Below.drew ?_) | (with_reducible refine below_drewN ?_ _) | (with_reducible refine Below.setCell ?_ ?_ _) | (with_reducible refine Below.trans ?_ (Below.mono (by with_reducible assumption) ?_)) | (with_reducible exact Below.size (by with_reducible assumption)) | go_size))
  have hl : w.heap.size + 1 < w1.heap.size := by have := hb1.size; simp at this; omega
  have y0 : w1.cell? ⟨w.heap.size + 1, 0, none⟩ = some (.slice none 0 0) := (hb1.cell (p := ⟨w.heap.size + 1, 0, none⟩) (by simp)).trans (by simp)
  have y1 : w1.cell? ⟨w.heap.size + 1, 1, none⟩ = some (.slice none 0 0) := (hb1.cell (p := ⟨w.heap.size + 1, 1, none⟩) (by simp)).trans (by simp)
  have y3 : ∀ o, w1.frozen? ⟨w.heap.size + 1, o, none⟩ = false := fun o => (hb1.frozen (p := ⟨w.heap.size + 1, o, none⟩) (by simp)).trans (by simp)
  have hR := hM.rows.rows.rows' HI.out.1
  have hS := hM.side.ints HI.out.2
  obtain ⟨W1, hW1⟩ : ∃ W1, W1 = w1.alloc (.cells #[.int .i64 D, .slice a n c, .slice a' n c'] 28) := ⟨_, rfl⟩
  have hal : Below w1.heap.size w1 W1 := by rw [hW1]; exact (Below.refl _ _).alloc (Nat.le_refl _) _
  have x0 : W1.cell? ⟨w1.heap.size, 0, none⟩ = some (.int .i64 D) := by rw [hW1]; simp
  have x1 : W1.cell? ⟨w1.heap.size, 1, none⟩ = some (.slice a n c) := by rw [hW1]; simp
  have x2 : W1.cell? ⟨w1.heap.size, 2, none⟩ = some (.slice a' n c') := by rw [hW1]; simp
  have hz1 : W1.heap.size = w1.heap.size + 1 := by rw [hW1]; simp
  have HWW := Lib.hid (HW.out _ _ _ (hR.below hal) (hS.below hal))
  have HRR := Lib.hid (hR.below hal)
  have HSS := Lib.hid (hS.below hal)
  have k0 := (hal.cell (p := ⟨w.heap.size + 1, 0, none⟩) hl).trans y0
  have k1 := (hal.cell (p := ⟨w.heap.size + 1, 1, none⟩) hl).trans y1
  have k3 := fun o => (hal.frozen (p := ⟨w.heap.size + 1, o, none⟩) hl).trans (y3 o)
  have hW : Below w.heap.size w W1 := hw1.trans (hal.mono hw1.size)
  clear hM hR hS hal hb1 hw1 y0 y1 y3 HP HW hn
  go_wp2_with fail
  rw [← hW1]
  refine HWW.out.mono ?_; rintro e w2 ⟨rfl, hb2⟩
  have hW2 : Below w.heap.size w w2 := hW.trans (hb2.mono hW.size)
  have hl2 : w.heap.size + 1 < w2.heap.size := by have := hb2.size; omega
  have hP2 : w1.heap.size < w2.heap.size := by have := hb2.size; omega
  have e0 := (hb2.cell (p := ⟨w1.heap.size, 0, none⟩) (by show w1.heap.size < _; omega)).trans x0
  have e1 := (hb2.cell (p := ⟨w1.heap.size, 1, none⟩) (by show w1.heap.size < _; omega)).trans x1
  have e2 := (hb2.cell (p := ⟨w1.heap.size, 2, none⟩) (by show w1.heap.size < _; omega)).trans x2
  have l0 := (hb2.cell (p := ⟨w.heap.size + 1, 0, none⟩) (by show w.heap.size + 1 < _; omega)).trans k0
  have l1 := (hb2.cell (p := ⟨w.heap.size + 1, 1, none⟩) (by show w.heap.size + 1 < _; omega)).trans k1
  have l3 := fun o => (hb2.frozen (p := ⟨w.heap.size + 1, o, none⟩) (by show w.heap.size + 1 < _; omega)).trans (k3 o)
  have HR2 := Lib.hid (HRR.out.below hb2)
  have HS2 := Lib.hid (HSS.out.below hb2)
  clear hb2 x0 x1 x2 k0 k1 k3 HRR HSS HWW hW hW1 hz1
  cases B
  case false =>
    go_wp2_with fail
    refine bodyPost_ret (v := .tuple #[.agg #[.slice none 0 0, .slice none 0 0], .int .i64 5]) (by simp [*, results, Tryd.results22, go_sem]) rfl ?_
    rw [HE2.out trivial]
    exact outP_err ((hW2.setCell (p := ⟨w.heap.size + 1, 0, none⟩) (by show w.heap.size ≤ w.heap.size + 1; omega) _).setCell (p := ⟨w.heap.size + 1, 1, none⟩) (by show w.heap.size ≤ w.heap.size + 1; omega) _)
  obtain ⟨bR, oR, cR, hv, hbR, hcell⟩ := rowsI_at HR2.out hn1
  simp only [Value.slice.injEq] at hv
  obtain ⟨rfl, _, rfl⟩ := hv
  obtain ⟨bS, oS, cS, hv, hbS, hcellS⟩ := ints_at HS2.out (row_length _ _) hn1
  simp only [Value.slice.injEq] at hv
  obtain ⟨rfl, _, rfl⟩ := hv
  have HCE := Lib.hid hcell
  have HCS := Lib.hid (fun k (hk : k < n) => by have := hcellS k (by rw [row_length]; exact hk); rw [row_getD _ _ _ hk] at this; exact this)
  have HFI := Lib.hid (And.intro (tab_I64 (n := n) (g := f') (B := 1920000000) (by decide) (fun i j _ _ => by rw [← HRD.out]; exact tdiv_bd (HBR.out i j))) (show ∀ x ∈ sK g' n, I64 x by
    intro x hx
    unfold sK at hx
    simp only [List.mem_map] at hx
    obtain ⟨j, _, rfl⟩ := hx
    rw [← HSD.out]
    have := tdiv_bd (d := D) (HBS.out j)
    unfold Bd at this
    show -9223372036854775808 ≤ _ ∧ _ ≤ 9223372036854775807
    omega))
  clear hcell hcellS HR2 HS2
  go_wp2_with fail
  obtain ⟨Pv, hPv⟩ : ∃ Pv, Pv = w1.heap.size := ⟨_, rfl⟩
  rw [← hPv] at e0 e1 e2 hP2 ⊢
  clear hPv
  obtain ⟨i0, hi', hzz0, hzz1, hzz2⟩ := info_parts info_ints
  obtain ⟨j0, hj', hyy0, hyy1, hyy2⟩ := info_parts info_int
  obtain ⟨N, hN⟩ : ∃ N, N = w2.heap.size + 1 + 1 := ⟨_, rfl⟩
  have hPS := pgG_start w2
  have hBS := ((((Below.refl w2.heap.size w2).alloc (Nat.le_refl _) (.cells #[] 23)).alloc (by simp) (.cells #[] 2)).alloc (by simp; omega) (.cells #[.slice (some ⟨w2.heap.size, 0, none⟩) 0 0, .slice (some ⟨w2.heap.size + 1, 0, none⟩) 0 0] 31))
  rw [← hN] at hPS ⊢
  clear hN
  go_loopw [9, 10, 11] (fun i _ _ wr => ∃ (k : Nat) (v q : Value) (us : List Value), k ≤ n ∧ i = .int .i64 k ∧ PgG w2.heap.size wr N v q (rK n f' k) (sK g' k) us ∧ Below w2.heap.size w2 wr) (fun i _ _ _ => n - (intOf i).toNat)
  case atStart => exact ⟨0, _, _, [], Nat.zero_le _, by go_num, hPS, hBS⟩
  case round =>
    obtain ⟨i, v, q, vs, hin, rfl, hPg, hB⟩ := hrel
    have hzw := hB.size
    have q0 := (hB.cell (p := ⟨Pv, 0, none⟩) (by show Pv < _; omega)).trans e0
    have q1 := (hB.cell (p := ⟨Pv, 1, none⟩) (by show Pv < _; omega)).trans e1
    have q2 := (hB.cell (p := ⟨Pv, 2, none⟩) (by show Pv < _; omega)).trans e2
    by_cases hlt : i < n
    · have HPG := Lib.hid hPg
      have HB := Lib.hid hB
      obtain ⟨W1, rfl⟩ : ∃ W1, W1 = wr := ⟨_, rfl⟩
      clear hPg hB hPS hBS
      go_wp2_with fail
      go_loopw [10, 11] (fun v c wi => ∃ j : Nat, j ≤ n ∧ c = .int .i64 j ∧ FreshI W1.heap.size wi v ((List.range j).map (f' i)) ∧ Below W1.heap.size W1 wi) (fun _ c _ => n - (intOf c).toNat)
      case atStart => exact ⟨0, Nat.zero_le _, by go_num, freshI_nil W1, (Below.refl _ _).alloc (Nat.le_refl _) _⟩
      case round =>
        obtain ⟨j, hjn, rfl, hI, hBI⟩ := hrel
        have hzi := hBI.size
        have z0 := (hBI.cell (p := ⟨Pv, 0, none⟩) (by show Pv < _; omega)).trans q0
        have z1 := (hBI.cell (p := ⟨Pv, 1, none⟩) (by show Pv < _; omega)).trans q1
        have z2 := (hBI.cell (p := ⟨Pv, 2, none⟩) (by show Pv < _; omega)).trans q2
        have hPW : Pv < wr.heap.size := by omega
        have hWr : Below w2.heap.size w2 wr := HB.out.trans (hBI.mono HB.out.size)
        by_cases hltj : j < n
        · obtain ⟨bi, oi, ci, d1, hbi, _, d2⟩ := HCE.out i hlt
          have d3 := (hWr.cell (p := ⟨bR, oR + i, none⟩) hbR).trans d1
          have d4 := (hWr.cell (p := ⟨bi, oi + j, none⟩) hbi).trans (d2 j hltj)
          have hbRw : bR < wr.heap.size := by have := hWr.size; omega
          have hbiw : bi < wr.heap.size := by have := hWr.size; omega
          have HI := Lib.hid hI
          have HBI := Lib.hid hBI
          have hYb := tdiv_bd (d := D) (HBR.out i j)
          have hXb := HBR.out i j
          have hXY := HRD.out i j
          unfold Bd at hYb hXb
          rw [hXY] at hYb
          obtain ⟨hY1, hY2⟩ := hYb
          obtain ⟨hX1, hX2⟩ := hXb
          have hsn : (List.range (j + 1)).map (f' i) = (List.range j).map (f' i) ++ [f' i j] := rows_snoc j (f' i)
          have HSN := Lib.hid hsn
          clear hI hBI d1 d2 hWr hsn
          obtain ⟨X, hX⟩ : ∃ X, X = f i j := ⟨_, rfl⟩
          obtain ⟨Y, hY⟩ : ∃ Y, Y = f' i j := ⟨_, rfl⟩
          rw [← hX] at d4 hXY hX1 hX2
          rw [← hY] at hXY hY1 hY2 HSN
          have hwY : IntKind.i64.wrap Y = Y := IntWalk.i64_in _ (by omega)
          clear hX hY
          have hIL : (List.map (f' i) (List.range j)).length = j := row_length _ _
          have HIL := Lib.hid hIL
          clear hIL
          go_wp2_with fail
          obtain ⟨W, rfl⟩ : ∃ W, W = wr := ⟨_, rfl⟩
          rename_i K0 hK0
          refine (wpIn_wide (n := 8)).1 ?_
          refine PR.wpIn_region_inv hmx (by kernel_rfl) (fun listed ac w' =>
              ∃ (b0 b1 b2 b3 b4 b5 b6 b7 b8 b9 b10 b11 b12 b13 b14 : Bool) (v' : Value) (hb : Nat), ((b2 = true → b1 = true) ∧ (b4 = true → b2 = true ∧ b3 = true) ∧ (b5 = true → b4 = true) ∧ (b7 = true → b5 = true ∧ b6 = true) ∧ (b8 = true → b7 = true) ∧ (b10 = true → b9 = true) ∧ (b11 = true → b8 = true ∧ b10 = true) ∧ (b12 = true → b11 = true) ∧ (b13 = true → b0 = true ∧ b12 = true) ∧ (b14 = true → b13 = true)) ∧ listed = #[b0, b1, b2, b3, b4, b5, b6, b7, b8, b9, b10, b11, b12, b13, b14] ∧
                ac = { tmps := #[.agg #[.slice a1 n c1, .slice a2 Q.length c2], .int .i64 s, .pointer (some ⟨w.heap.size, 0, none⟩), undef, .pointer (some ⟨w.heap.size + 1, 0, none⟩), .int .i64 0, .pointer (some ⟨Pv, 0, none⟩), .int .i64 0, .pointer (some ⟨N, 0, none⟩), .int .i64 i, cond b14 (v') (u10), .int .i64 j, .tuple #[.agg #[.int .i64 D, .slice (some ⟨bR, oR, none⟩) n c, .slice (some ⟨bS, oS, none⟩) n c'], .int .i64 0], .agg #[.slice a1 n c1, .slice a2 Q.length c2], .int .i64 s, .tuple #[.agg #[.int .i64 D, .slice (some ⟨bR, oR, none⟩) n c, .slice (some ⟨bS, oS, none⟩) n c'], .int .i64 0], .agg #[.int .i64 D, .slice (some ⟨bR, oR, none⟩) n c, .slice (some ⟨bS, oS, none⟩) n c'], .int .i64 0, .int .i64 0, .bool true, .bool true, .agg #[.int .i64 D, .slice (some ⟨bR, oR, none⟩) n c, .slice (some ⟨bS, oS, none⟩) n c'], .bool true, .bool false, .bool false, .int .i64 0, .bool false, undef, undef, .slice (some ⟨w2.heap.size, 0, none⟩) 0 0, .slice (some ⟨w2.heap.size + 1, 0, none⟩) 0 0, .agg #[.slice (some ⟨w2.heap.size, 0, none⟩) 0 0, .slice (some ⟨w2.heap.size + 1, 0, none⟩) 0 0], .int .i64 i, .pointer (some ⟨Pv, 2, none⟩), .slice (some ⟨bS, oS, none⟩) n c', .int .i64 n, .bool true, u37, u38, .slice (some ⟨W1.heap.size, 0, none⟩) 0 0, .int .i64 j, .pointer (some ⟨Pv, 2, none⟩), .slice (some ⟨bS, oS, none⟩) n c', .int .i64 n, .bool true, u45, u46, cond b0 (u10) (u47), cond b1 (.pointer (some ⟨Pv, 1, none⟩)) (u48), cond b2 (.slice (some ⟨bR, oR, none⟩) n c) (u49), cond b3 (.int .i64 i) (u50), cond b4 (.pointer (some ⟨bR, oR + i, none⟩)) (u51), cond b5 (.slice (some ⟨bi, oi, none⟩) n ci) (u52), cond b6 (.int .i64 j) (u53), cond b7 (.pointer (some ⟨bi, oi + j, none⟩)) (u54), cond b8 (.int .i64 X) (u55), cond b9 (.pointer (some ⟨Pv, 0, none⟩)) (u56), cond b10 (.int .i64 D) (u57), cond b11 (.int .i64 Y) (u58), cond b12 (.slice (some ⟨hb, 0, none⟩) 1 1) (u59), cond b13 (v') (u60), u61, u62, u63, u64, u65, u66, u67, u68, u69, u70, u71, u72, u73, u74, u75, u76, u77, u78, u79, undef, undef, undef, undef, undef], defers := [] } ∧ ApI W1 W w' j ((List.range j).map (f' i)) Y v' hb b12 b13) ?_ ?_ ?_ ?_
          · rintro listed ac w' ⟨b0, b1, b2, b3, b4, b5, b6, b7, b8, b9, b10, b11, b12, b13, b14, v', hb, _, rfl, _⟩
            rfl
          · rintro listed ac w' ⟨b0, b1, b2, b3, b4, b5, b6, b7, b8, b9, b10, b11, b12, b13, b14, v', hb, _, rfl, rfl, hR⟩ hall
            have h0 := hall 0 (by simp)
            have h1 := hall 1 (by simp)
            have h2 := hall 2 (by simp)
            have h3 := hall 3 (by simp)
            have h4 := hall 4 (by simp)
            have h5 := hall 5 (by simp)
            have h6 := hall 6 (by simp)
            have h7 := hall 7 (by simp)
            have h8 := hall 8 (by simp)
            have h9 := hall 9 (by simp)
            have h10 := hall 10 (by simp)
            have h11 := hall 11 (by simp)
            have h12 := hall 12 (by simp)
            have h13 := hall 13 (by simp)
            have h14 := hall 14 (by simp)
            simp at h0 h1 h2 h3 h4 h5 h6 h7 h8 h9 h10 h11 h12 h13 h14
            subst h0 h1 h2 h3 h4 h5 h6 h7 h8 h9 h10 h11 h12 h13 h14
            clear hall
            refine hK0 _ _ ?_
            simp only [cond_true]
            obtain ⟨hF, hBw, gq, cq, rfl⟩ := hR.fin rfl
            rw [← HSN.out] at hF
            have HF := Lib.hid hF
            have HBW := Lib.hid hBw
            clear hR hF hBw
            go_wp2_with fail
            go_roundw
            case rel => exact ⟨j + 1, by omega, by go_num, HF.out, HBW.out⟩
            case measure => simp [intOf]; omega
          · exact ⟨false, false, false, false, false, false, false, false, false, false, false, false, false, false, false, undef, 0, by simp, rfl, rfl, ⟨fun _ => (Below.refl _ _).drew, fun e => (by cases e), fun e => (by cases e)⟩⟩
          · rintro listed ac w' i oi ⟨b0, b1, b2, b3, b4, b5, b6, b7, b8, b9, b10, b11, b12, b13, b14, v', hb, ⟨e2, e4, e5, e7, e8, e10, e11, e12, e13, e14⟩, rfl, rfl, hR⟩ ho hun hdep
            have hi : i < 15 := by simpa using (Array.getElem?_eq_some_iff.1 ho).1
            obtain rfl | rfl | rfl | rfl | rfl | rfl | rfl | rfl | rfl | rfl | rfl | rfl | rfl | rfl | rfl : i = 0 ∨ i = 1 ∨ i = 2 ∨ i = 3 ∨ i = 4 ∨ i = 5 ∨ i = 6 ∨ i = 7 ∨ i = 8 ∨ i = 9 ∨ i = 10 ∨ i = 11 ∨ i = 12 ∨ i = 13 ∨ i = 14 := by omega
            · -- 0
              simp only [List.getElem?_toArray, List.getElem?_cons_zero, Option.some.injEq] at ho
              subst ho
              have hbi : b0 = false := by simpa using hun
              subst hbi
              obtain rfl : b13 = false := Bool.eq_false_iff.2 (fun h => Bool.noConfusion (e13 h).1)
              obtain rfl : b14 = false := Bool.eq_false_iff.2 (fun h => Bool.noConfusion (e14 h))
              refine wpOpIn_step rfl (fun K hK => ?_)
              clear hun hdep hi
              go_simp
              refine hK _ _ ⟨true, b1, b2, b3, b4, b5, b6, b7, b8, b9, b10, b11, b12, false, false, v', hb, ⟨e2, e4, e5, e7, e8, e10, e11, e12, fun h => Bool.noConfusion h, fun h => Bool.noConfusion h⟩, rfl, rfl, hR⟩
            · -- 1
              simp only [List.getElem?_toArray, List.getElem?_cons_succ, List.getElem?_cons_zero, Option.some.injEq] at ho
              subst ho
              have hbi : b1 = false := by simpa using hun
              subst hbi
              obtain rfl : b2 = false := Bool.eq_false_iff.2 (fun h => Bool.noConfusion (e2 h))
              obtain rfl : b4 = false := Bool.eq_false_iff.2 (fun h => Bool.noConfusion (e4 h).1)
              obtain rfl : b5 = false := Bool.eq_false_iff.2 (fun h => Bool.noConfusion (e5 h))
              obtain rfl : b7 = false := Bool.eq_false_iff.2 (fun h => Bool.noConfusion (e7 h).1)
              obtain rfl : b8 = false := Bool.eq_false_iff.2 (fun h => Bool.noConfusion (e8 h))
              obtain rfl : b11 = false := Bool.eq_false_iff.2 (fun h => Bool.noConfusion (e11 h).1)
              obtain rfl : b12 = false := Bool.eq_false_iff.2 (fun h => Bool.noConfusion (e12 h))
              obtain rfl : b13 = false := Bool.eq_false_iff.2 (fun h => Bool.noConfusion (e13 h).2)
              obtain rfl : b14 = false := Bool.eq_false_iff.2 (fun h => Bool.noConfusion (e14 h))
              refine wpOpIn_step rfl (fun K hK => ?_)
              clear hun hdep hi
              go_simp
              refine hK _ _ ⟨b0, true, false, b3, false, false, b6, false, false, b9, b10, false, false, false, false, v', hb, ⟨fun h => Bool.noConfusion h, fun h => Bool.noConfusion h, fun h => Bool.noConfusion h, fun h => Bool.noConfusion h, fun h => Bool.noConfusion h, e10, fun h => Bool.noConfusion h, fun h => Bool.noConfusion h, fun h => Bool.noConfusion h, fun h => Bool.noConfusion h⟩, rfl, rfl, hR⟩
            · -- 2
              simp only [List.getElem?_toArray, List.getElem?_cons_succ, List.getElem?_cons_zero, Option.some.injEq] at ho
              subst ho
              have hbi : b2 = false := by simpa using hun
              subst hbi
              have hd1 : b1 = true := by have := hdep ⟨1, .data⟩ (by simp) rfl; simpa using this
              subst hd1
              obtain rfl : b4 = false := Bool.eq_false_iff.2 (fun h => Bool.noConfusion (e4 h).1)
              obtain rfl : b5 = false := Bool.eq_false_iff.2 (fun h => Bool.noConfusion (e5 h))
              obtain rfl : b7 = false := Bool.eq_false_iff.2 (fun h => Bool.noConfusion (e7 h).1)
              obtain rfl : b8 = false := Bool.eq_false_iff.2 (fun h => Bool.noConfusion (e8 h))
              obtain rfl : b11 = false := Bool.eq_false_iff.2 (fun h => Bool.noConfusion (e11 h).1)
              obtain rfl : b12 = false := Bool.eq_false_iff.2 (fun h => Bool.noConfusion (e12 h))
              obtain rfl : b13 = false := Bool.eq_false_iff.2 (fun h => Bool.noConfusion (e13 h).2)
              obtain rfl : b14 = false := Bool.eq_false_iff.2 (fun h => Bool.noConfusion (e14 h))
              refine wpOpIn_step rfl (fun K hK => ?_)
              clear hun hdep hi
              have t0 := ((hR.low rfl).cell (p := ⟨Pv, 1, none⟩) hPW).trans z1
              go_simp
              refine hK _ _ ⟨b0, true, true, b3, false, false, b6, false, false, b9, b10, false, false, false, false, v', hb, ⟨fun _ => rfl, fun h => Bool.noConfusion h, fun h => Bool.noConfusion h, fun h => Bool.noConfusion h, fun h => Bool.noConfusion h, e10, fun h => Bool.noConfusion h, fun h => Bool.noConfusion h, fun h => Bool.noConfusion h, fun h => Bool.noConfusion h⟩, rfl, rfl, hR⟩
            · -- 3
              simp only [List.getElem?_toArray, List.getElem?_cons_succ, List.getElem?_cons_zero, Option.some.injEq] at ho
              subst ho
              have hbi : b3 = false := by simpa using hun
              subst hbi
              obtain rfl : b4 = false := Bool.eq_false_iff.2 (fun h => Bool.noConfusion (e4 h).2)
              obtain rfl : b5 = false := Bool.eq_false_iff.2 (fun h => Bool.noConfusion (e5 h))
              obtain rfl : b7 = false := Bool.eq_false_iff.2 (fun h => Bool.noConfusion (e7 h).1)
              obtain rfl : b8 = false := Bool.eq_false_iff.2 (fun h => Bool.noConfusion (e8 h))
              obtain rfl : b11 = false := Bool.eq_false_iff.2 (fun h => Bool.noConfusion (e11 h).1)
              obtain rfl : b12 = false := Bool.eq_false_iff.2 (fun h => Bool.noConfusion (e12 h))
              obtain rfl : b13 = false := Bool.eq_false_iff.2 (fun h => Bool.noConfusion (e13 h).2)
              obtain rfl : b14 = false := Bool.eq_false_iff.2 (fun h => Bool.noConfusion (e14 h))
              refine wpOpIn_step rfl (fun K hK => ?_)
              clear hun hdep hi
              go_simp
              refine hK _ _ ⟨b0, b1, b2, true, false, false, b6, false, false, b9, b10, false, false, false, false, v', hb, ⟨e2, fun h => Bool.noConfusion h, fun h => Bool.noConfusion h, fun h => Bool.noConfusion h, fun h => Bool.noConfusion h, e10, fun h => Bool.noConfusion h, fun h => Bool.noConfusion h, fun h => Bool.noConfusion h, fun h => Bool.noConfusion h⟩, rfl, rfl, hR⟩
            · -- 4
              simp only [List.getElem?_toArray, List.getElem?_cons_succ, List.getElem?_cons_zero, Option.some.injEq] at ho
              subst ho
              have hbi : b4 = false := by simpa using hun
              subst hbi
              have hd2 : b2 = true := by have := hdep ⟨2, .data⟩ (by simp) rfl; simpa using this
              have hd3 : b3 = true := by have := hdep ⟨3, .data⟩ (by simp) rfl; simpa using this
              have hd1 : b1 = true := (e2 hd2)
              subst hd1 hd2 hd3
              obtain rfl : b5 = false := Bool.eq_false_iff.2 (fun h => Bool.noConfusion (e5 h))
              obtain rfl : b7 = false := Bool.eq_false_iff.2 (fun h => Bool.noConfusion (e7 h).1)
              obtain rfl : b8 = false := Bool.eq_false_iff.2 (fun h => Bool.noConfusion (e8 h))
              obtain rfl : b11 = false := Bool.eq_false_iff.2 (fun h => Bool.noConfusion (e11 h).1)
              obtain rfl : b12 = false := Bool.eq_false_iff.2 (fun h => Bool.noConfusion (e12 h))
              obtain rfl : b13 = false := Bool.eq_false_iff.2 (fun h => Bool.noConfusion (e13 h).2)
              obtain rfl : b14 = false := Bool.eq_false_iff.2 (fun h => Bool.noConfusion (e14 h))
              refine wpOpIn_step rfl (fun K hK => ?_)
              clear hun hdep hi
              go_simp
              refine hK _ _ ⟨b0, true, true, true, true, false, b6, false, false, b9, b10, false, false, false, false, v', hb, ⟨fun _ => rfl, fun _ => ⟨rfl, rfl⟩, fun h => Bool.noConfusion h, fun h => Bool.noConfusion h, fun h => Bool.noConfusion h, e10, fun h => Bool.noConfusion h, fun h => Bool.noConfusion h, fun h => Bool.noConfusion h, fun h => Bool.noConfusion h⟩, rfl, rfl, hR⟩
            · -- 5
              simp only [List.getElem?_toArray, List.getElem?_cons_succ, List.getElem?_cons_zero, Option.some.injEq] at ho
              subst ho
              have hbi : b5 = false := by simpa using hun
              subst hbi
              have hd4 : b4 = true := by have := hdep ⟨4, .data⟩ (by simp) rfl; simpa using this
              have hd3 : b3 = true := (e4 hd4).2
              have hd2 : b2 = true := (e4 hd4).1
              have hd1 : b1 = true := (e2 hd2)
              subst hd1 hd2 hd3 hd4
              obtain rfl : b7 = false := Bool.eq_false_iff.2 (fun h => Bool.noConfusion (e7 h).1)
              obtain rfl : b8 = false := Bool.eq_false_iff.2 (fun h => Bool.noConfusion (e8 h))
              obtain rfl : b11 = false := Bool.eq_false_iff.2 (fun h => Bool.noConfusion (e11 h).1)
              obtain rfl : b12 = false := Bool.eq_false_iff.2 (fun h => Bool.noConfusion (e12 h))
              obtain rfl : b13 = false := Bool.eq_false_iff.2 (fun h => Bool.noConfusion (e13 h).2)
              obtain rfl : b14 = false := Bool.eq_false_iff.2 (fun h => Bool.noConfusion (e14 h))
              refine wpOpIn_step rfl (fun K hK => ?_)
              clear hun hdep hi
              have t0 := ((hR.low rfl).cell (p := ⟨bR, oR + i, none⟩) hbRw).trans d3
              go_simp
              refine hK _ _ ⟨b0, true, true, true, true, true, b6, false, false, b9, b10, false, false, false, false, v', hb, ⟨fun _ => rfl, fun _ => ⟨rfl, rfl⟩, fun _ => rfl, fun h => Bool.noConfusion h, fun h => Bool.noConfusion h, e10, fun h => Bool.noConfusion h, fun h => Bool.noConfusion h, fun h => Bool.noConfusion h, fun h => Bool.noConfusion h⟩, rfl, rfl, hR⟩
            · -- 6
              simp only [List.getElem?_toArray, List.getElem?_cons_succ, List.getElem?_cons_zero, Option.some.injEq] at ho
              subst ho
              have hbi : b6 = false := by simpa using hun
              subst hbi
              obtain rfl : b7 = false := Bool.eq_false_iff.2 (fun h => Bool.noConfusion (e7 h).2)
              obtain rfl : b8 = false := Bool.eq_false_iff.2 (fun h => Bool.noConfusion (e8 h))
              obtain rfl : b11 = false := Bool.eq_false_iff.2 (fun h => Bool.noConfusion (e11 h).1)
              obtain rfl : b12 = false := Bool.eq_false_iff.2 (fun h => Bool.noConfusion (e12 h))
              obtain rfl : b13 = false := Bool.eq_false_iff.2 (fun h => Bool.noConfusion (e13 h).2)
              obtain rfl : b14 = false := Bool.eq_false_iff.2 (fun h => Bool.noConfusion (e14 h))
              refine wpOpIn_step rfl (fun K hK => ?_)
              clear hun hdep hi
              go_simp
              refine hK _ _ ⟨b0, b1, b2, b3, b4, b5, true, false, false, b9, b10, false, false, false, false, v', hb, ⟨e2, e4, e5, fun h => Bool.noConfusion h, fun h => Bool.noConfusion h, e10, fun h => Bool.noConfusion h, fun h => Bool.noConfusion h, fun h => Bool.noConfusion h, fun h => Bool.noConfusion h⟩, rfl, rfl, hR⟩
            · -- 7
              simp only [List.getElem?_toArray, List.getElem?_cons_succ, List.getElem?_cons_zero, Option.some.injEq] at ho
              subst ho
              have hbi : b7 = false := by simpa using hun
              subst hbi
              have hd5 : b5 = true := by have := hdep ⟨5, .data⟩ (by simp) rfl; simpa using this
              have hd6 : b6 = true := by have := hdep ⟨6, .data⟩ (by simp) rfl; simpa using this
              have hd4 : b4 = true := (e5 hd5)
              have hd3 : b3 = true := (e4 hd4).2
              have hd2 : b2 = true := (e4 hd4).1
              have hd1 : b1 = true := (e2 hd2)
              subst hd1 hd2 hd3 hd4 hd5 hd6
              obtain rfl : b8 = false := Bool.eq_false_iff.2 (fun h => Bool.noConfusion (e8 h))
              obtain rfl : b11 = false := Bool.eq_false_iff.2 (fun h => Bool.noConfusion (e11 h).1)
              obtain rfl : b12 = false := Bool.eq_false_iff.2 (fun h => Bool.noConfusion (e12 h))
              obtain rfl : b13 = false := Bool.eq_false_iff.2 (fun h => Bool.noConfusion (e13 h).2)
              obtain rfl : b14 = false := Bool.eq_false_iff.2 (fun h => Bool.noConfusion (e14 h))
              refine wpOpIn_step rfl (fun K hK => ?_)
              clear hun hdep hi
              go_simp
              refine hK _ _ ⟨b0, true, true, true, true, true, true, true, false, b9, b10, false, false, false, false, v', hb, ⟨fun _ => rfl, fun _ => ⟨rfl, rfl⟩, fun _ => rfl, fun _ => ⟨rfl, rfl⟩, fun h => Bool.noConfusion h, e10, fun h => Bool.noConfusion h, fun h => Bool.noConfusion h, fun h => Bool.noConfusion h, fun h => Bool.noConfusion h⟩, rfl, rfl, hR⟩
            · -- 8
              simp only [List.getElem?_toArray, List.getElem?_cons_succ, List.getElem?_cons_zero, Option.some.injEq] at ho
              subst ho
              have hbi : b8 = false := by simpa using hun
              subst hbi
              have hd7 : b7 = true := by have := hdep ⟨7, .data⟩ (by simp) rfl; simpa using this
              have hd6 : b6 = true := (e7 hd7).2
              have hd5 : b5 = true := (e7 hd7).1
              have hd4 : b4 = true := (e5 hd5)
              have hd3 : b3 = true := (e4 hd4).2
              have hd2 : b2 = true := (e4 hd4).1
              have hd1 : b1 = true := (e2 hd2)
              subst hd1 hd2 hd3 hd4 hd5 hd6 hd7
              obtain rfl : b11 = false := Bool.eq_false_iff.2 (fun h => Bool.noConfusion (e11 h).1)
              obtain rfl : b12 = false := Bool.eq_false_iff.2 (fun h => Bool.noConfusion (e12 h))
              obtain rfl : b13 = false := Bool.eq_false_iff.2 (fun h => Bool.noConfusion (e13 h).2)
              obtain rfl : b14 = false := Bool.eq_false_iff.2 (fun h => Bool.noConfusion (e14 h))
              refine wpOpIn_step rfl (fun K hK => ?_)
              clear hun hdep hi
              have t0 := ((hR.low rfl).cell (p := ⟨bi, oi + j, none⟩) hbiw).trans d4
              go_simp
              refine hK _ _ ⟨b0, true, true, true, true, true, true, true, true, b9, b10, false, false, false, false, v', hb, ⟨fun _ => rfl, fun _ => ⟨rfl, rfl⟩, fun _ => rfl, fun _ => ⟨rfl, rfl⟩, fun _ => rfl, e10, fun h => Bool.noConfusion h, fun h => Bool.noConfusion h, fun h => Bool.noConfusion h, fun h => Bool.noConfusion h⟩, rfl, rfl, hR⟩
            · -- 9
              simp only [List.getElem?_toArray, List.getElem?_cons_succ, List.getElem?_cons_zero, Option.some.injEq] at ho
              subst ho
              have hbi : b9 = false := by simpa using hun
              subst hbi
              obtain rfl : b10 = false := Bool.eq_false_iff.2 (fun h => Bool.noConfusion (e10 h))
              obtain rfl : b11 = false := Bool.eq_false_iff.2 (fun h => Bool.noConfusion (e11 h).2)
              obtain rfl : b12 = false := Bool.eq_false_iff.2 (fun h => Bool.noConfusion (e12 h))
              obtain rfl : b13 = false := Bool.eq_false_iff.2 (fun h => Bool.noConfusion (e13 h).2)
              obtain rfl : b14 = false := Bool.eq_false_iff.2 (fun h => Bool.noConfusion (e14 h))
              refine wpOpIn_step rfl (fun K hK => ?_)
              clear hun hdep hi
              go_simp
              refine hK _ _ ⟨b0, b1, b2, b3, b4, b5, b6, b7, b8, true, false, false, false, false, false, v', hb, ⟨e2, e4, e5, e7, e8, fun h => Bool.noConfusion h, fun h => Bool.noConfusion h, fun h => Bool.noConfusion h, fun h => Bool.noConfusion h, fun h => Bool.noConfusion h⟩, rfl, rfl, hR⟩
            · -- 10
              simp only [List.getElem?_toArray, List.getElem?_cons_succ, List.getElem?_cons_zero, Option.some.injEq] at ho
              subst ho
              have hbi : b10 = false := by simpa using hun
              subst hbi
              have hd9 : b9 = true := by have := hdep ⟨9, .data⟩ (by simp) rfl; simpa using this
              subst hd9
              obtain rfl : b11 = false := Bool.eq_false_iff.2 (fun h => Bool.noConfusion (e11 h).2)
              obtain rfl : b12 = false := Bool.eq_false_iff.2 (fun h => Bool.noConfusion (e12 h))
              obtain rfl : b13 = false := Bool.eq_false_iff.2 (fun h => Bool.noConfusion (e13 h).2)
              obtain rfl : b14 = false := Bool.eq_false_iff.2 (fun h => Bool.noConfusion (e14 h))
              refine wpOpIn_step rfl (fun K hK => ?_)
              clear hun hdep hi
              have t0 := ((hR.low rfl).cell (p := ⟨Pv, 0, none⟩) hPW).trans z0
              go_simp
              refine hK _ _ ⟨b0, b1, b2, b3, b4, b5, b6, b7, b8, true, true, false, false, false, false, v', hb, ⟨e2, e4, e5, e7, e8, fun _ => rfl, fun h => Bool.noConfusion h, fun h => Bool.noConfusion h, fun h => Bool.noConfusion h, fun h => Bool.noConfusion h⟩, rfl, rfl, hR⟩
            · -- 11
              simp only [List.getElem?_toArray, List.getElem?_cons_succ, List.getElem?_cons_zero, Option.some.injEq] at ho
              subst ho
              have hbi : b11 = false := by simpa using hun
              subst hbi
              have hd8 : b8 = true := by have := hdep ⟨8, .data⟩ (by simp) rfl; simpa using this
              have hd10 : b10 = true := by have := hdep ⟨10, .data⟩ (by simp) rfl; simpa using this
              have hd9 : b9 = true := (e10 hd10)
              have hd7 : b7 = true := (e8 hd8)
              have hd6 : b6 = true := (e7 hd7).2
              have hd5 : b5 = true := (e7 hd7).1
              have hd4 : b4 = true := (e5 hd5)
              have hd3 : b3 = true := (e4 hd4).2
              have hd2 : b2 = true := (e4 hd4).1
              have hd1 : b1 = true := (e2 hd2)
              subst hd1 hd2 hd3 hd4 hd5 hd6 hd7 hd8 hd9 hd10
              obtain rfl : b12 = false := Bool.eq_false_iff.2 (fun h => Bool.noConfusion (e12 h))
              obtain rfl : b13 = false := Bool.eq_false_iff.2 (fun h => Bool.noConfusion (e13 h).2)
              obtain rfl : b14 = false := Bool.eq_false_iff.2 (fun h => Bool.noConfusion (e14 h))
              refine wpOpIn_step rfl (fun K hK => ?_)
              clear hun hdep hi
              go_simp
              refine hK _ _ ⟨b0, true, true, true, true, true, true, true, true, true, true, true, false, false, false, v', hb, ⟨fun _ => rfl, fun _ => ⟨rfl, rfl⟩, fun _ => rfl, fun _ => ⟨rfl, rfl⟩, fun _ => rfl, fun _ => rfl, fun _ => ⟨rfl, rfl⟩, fun h => Bool.noConfusion h, fun h => Bool.noConfusion h, fun h => Bool.noConfusion h⟩, rfl, rfl, hR⟩
            · -- 12
              simp only [List.getElem?_toArray, List.getElem?_cons_succ, List.getElem?_cons_zero, Option.some.injEq] at ho
              subst ho
              have hbi : b12 = false := by simpa using hun
              subst hbi
              have hd11 : b11 = true := by have := hdep ⟨11, .data⟩ (by simp) rfl; simpa using this
              have hd10 : b10 = true := (e11 hd11).2
              have hd9 : b9 = true := (e10 hd10)
              have hd8 : b8 = true := (e11 hd11).1
              have hd7 : b7 = true := (e8 hd8)
              have hd6 : b6 = true := (e7 hd7).2
              have hd5 : b5 = true := (e7 hd7).1
              have hd4 : b4 = true := (e5 hd5)
              have hd3 : b3 = true := (e4 hd4).2
              have hd2 : b2 = true := (e4 hd4).1
              have hd1 : b1 = true := (e2 hd2)
              subst hd1 hd2 hd3 hd4 hd5 hd6 hd7 hd8 hd9 hd10 hd11
              obtain rfl : b13 = false := Bool.eq_false_iff.2 (fun h => Bool.noConfusion (e13 h).2)
              obtain rfl : b14 = false := Bool.eq_false_iff.2 (fun h => Bool.noConfusion (e14 h))
              refine wpOpIn_step rfl (fun K hK => ?_)
              clear hun hdep hi
              go_simp
              refine hK _ _ ⟨b0, true, true, true, true, true, true, true, true, true, true, true, true, false, false, v', w'.heap.size, ⟨fun _ => rfl, fun _ => ⟨rfl, rfl⟩, fun _ => rfl, fun _ => ⟨rfl, rfl⟩, fun _ => rfl, fun _ => rfl, fun _ => ⟨rfl, rfl⟩, fun _ => rfl, fun h => Bool.noConfusion h, fun h => Bool.noConfusion h⟩, rfl, rfl, hR.box_⟩
            · -- 13
              simp only [List.getElem?_toArray, List.getElem?_cons_succ, List.getElem?_cons_zero, Option.some.injEq] at ho
              subst ho
              have hbi : b13 = false := by simpa using hun
              subst hbi
              have hd0 : b0 = true := by have := hdep ⟨0, .data⟩ (by simp) rfl; simpa using this
              have hd12 : b12 = true := by have := hdep ⟨12, .data⟩ (by simp) rfl; simpa using this
              have hd11 : b11 = true := (e12 hd12)
              have hd10 : b10 = true := (e11 hd11).2
              have hd9 : b9 = true := (e10 hd10)
              have hd8 : b8 = true := (e11 hd11).1
              have hd7 : b7 = true := (e8 hd8)
              have hd6 : b6 = true := (e7 hd7).2
              have hd5 : b5 = true := (e7 hd7).1
              have hd4 : b4 = true := (e5 hd5)
              have hd3 : b3 = true := (e4 hd4).2
              have hd2 : b2 = true := (e4 hd4).1
              have hd1 : b1 = true := (e2 hd2)
              subst hd0 hd1 hd2 hd3 hd4 hd5 hd6 hd7 hd8 hd9 hd10 hd11 hd12
              obtain rfl : b14 = false := Bool.eq_false_iff.2 (fun h => Bool.noConfusion (e14 h))
              refine wpOpIn_step rfl (fun K hK => ?_)
              clear hun hdep hi
              refine PR.stepIn_append_lies _ rfl _ _ 23 rfl 0 2 j0 (.int .i64 0) 1 8 Tryd.underlying23 hj' hyy0 hyy1 hyy2 rfl (by decide) u10 j _ rfl (by have := (HI.out.below (hR.low rfl)).owns; rw [HIL.out] at this; exact this) ⟨hb, 0, none⟩ 1 1 [.int .i64 Y] rfl rfl (news_one (hR.box rfl rfl)) (by simp [Value.oneCell']) (by decide) (by unfold maxLen; omega) (by omega) (Nat.zero_le _) ?_
              intro g2 cap w'' hown hgrow hat hgl
              refine hK _ _ ⟨true, true, true, true, true, true, true, true, true, true, true, true, true, true, false, (.slice (some ⟨g2, 0, none⟩) (j + 1) cap), hb, ⟨fun _ => rfl, fun _ => ⟨rfl, rfl⟩, fun _ => rfl, fun _ => ⟨rfl, rfl⟩, fun _ => rfl, fun _ => rfl, fun _ => ⟨rfl, rfl⟩, fun _ => rfl, fun _ => ⟨rfl, rfl⟩, fun h => Bool.noConfusion h⟩, rfl, rfl, hR.app_ HI.out HBI.out HIL.out.symm hown hgrow hat hgl⟩
            · -- 14
              simp only [List.getElem?_toArray, List.getElem?_cons_succ, List.getElem?_cons_zero, Option.some.injEq] at ho
              subst ho
              have hbi : b14 = false := by simpa using hun
              subst hbi
              have hd13 : b13 = true := by have := hdep ⟨13, .data⟩ (by simp) rfl; simpa using this
              have hd12 : b12 = true := (e13 hd13).2
              have hd11 : b11 = true := (e12 hd12)
              have hd10 : b10 = true := (e11 hd11).2
              have hd9 : b9 = true := (e10 hd10)
              have hd8 : b8 = true := (e11 hd11).1
              have hd7 : b7 = true := (e8 hd8)
              have hd6 : b6 = true := (e7 hd7).2
              have hd5 : b5 = true := (e7 hd7).1
              have hd4 : b4 = true := (e5 hd5)
              have hd3 : b3 = true := (e4 hd4).2
              have hd2 : b2 = true := (e4 hd4).1
              have hd1 : b1 = true := (e2 hd2)
              have hd0 : b0 = true := (e13 hd13).1
              subst hd0 hd1 hd2 hd3 hd4 hd5 hd6 hd7 hd8 hd9 hd10 hd11 hd12 hd13
              refine wpOpIn_step rfl (fun K hK => ?_)
              clear hun hdep hi
              go_simp
              refine hK _ _ ⟨true, true, true, true, true, true, true, true, true, true, true, true, true, true, true, v', hb, ⟨fun _ => rfl, fun _ => ⟨rfl, rfl⟩, fun _ => rfl, fun _ => ⟨rfl, rfl⟩, fun _ => rfl, fun _ => rfl, fun _ => ⟨rfl, rfl⟩, fun _ => rfl, fun _ => ⟨rfl, rfl⟩, fun _ => rfl⟩, rfl, rfl, hR⟩
        · obtain rfl : n = j := by omega
          obtain ⟨gu, cu, hgu, hgu1, hgu2, hguo⟩ := id hI
          rw [row_length] at hgu
          subst hgu
          have HI := Lib.hid hI
          have HOV := Lib.hid (fun W (h : Below W1.heap.size W1 W) => HPG.out.ownV h (rK_length n f' i))
          have hNl := HPG.out.lt
          have t0 := (hBI.cell (p := ⟨N, 0, none⟩) hNl).trans HPG.out.c1
          have hall : Below W1.heap.size W1 (wr.alloc (.cells #[.slice (some ⟨gu, 0, none⟩) n cu] 23)) := hBI.alloc hzi _
          have HIA := Lib.hid (HI.out.below (w' := wr.alloc (.cells #[.slice (some ⟨gu, 0, none⟩) n cu] 23)) ((Below.refl _ _).alloc (Nat.le_refl _) _))
          have HALL := Lib.hid hall
          have hNw : N < wr.heap.size := by omega
          clear hI hWr hguo hall hBI
          go_wp2_with (at_builtin; refine wpList_append_lies _ rfl _ _ 22 rfl 0 23 i0 (.slice none 0 0) 1 24 Tryd.underlying22 hi' hzz0 hzz1 hzz2 rfl (by decide) v i vs rfl (HOV.out _ HALL.out) _ 1 _ [.slice (some ⟨gu, 0, none⟩) n cu] rfl rfl (cell_one_new _ _ _) (by simp [Value.oneCell']) (by decide) (by unfold maxLen; omega) (by omega) (Nat.zero_le _) _ rfl ?_; intro g5 cap5 w5 hown hgrow hat hgl; obtain ⟨hs5, hcN, hfN⟩ := HPG.out.far HALL.out hgrow HPG.out.vN; have hcN0 := (hcN 0).trans HPG.out.c1; have hfN0 := hfN 0; clear hcN hfN)
          have hP5 := HPG.out.rowF HALL.out HIA.out (Nat.le_refl _) (rK_length n f' i) hown hgrow hat
          have hB5 := pvG_low (o := 0) (y := .slice (some ⟨g5, 0, none⟩) (i + 1) cap5) HB.out HPG.out.BN HPG.out.lt HALL.out hgrow (fun b hb => (HPG.out.rows.mb b hb).1)
          rw [← rK_succ] at hP5
          obtain ⟨W, hW⟩ : ∃ W, W = w5.setCell ⟨N, 0, none⟩ (.slice (some ⟨g5, 0, none⟩) (i + 1) cap5) := ⟨_, rfl⟩
          rw [← hW] at hP5 hB5
          have HP5 := Lib.hid hP5
          have HB5 := Lib.hid hB5
          have q0' := (hB5.cell (p := ⟨Pv, 0, none⟩) (by show Pv < _; omega)).trans e0
          have q2' := (hB5.cell (p := ⟨Pv, 2, none⟩) (by show Pv < _; omega)).trans e2
          have d3 := (hB5.cell (p := ⟨bS, oS + i, none⟩) hbS).trans (HCS.out i hlt)
          have hbSw : bS < W.heap.size := by have := hB5.size; omega
          have hPW2 : Pv < W.heap.size := by have := hB5.size; omega
          have hYb := tdiv_bd (d := D) (HBS.out i)
          have hXb := HBS.out i
          have hXY := HSD.out i
          unfold Bd at hYb hXb
          rw [hXY] at hYb
          obtain ⟨hY1, hY2⟩ := hYb
          obtain ⟨hX1, hX2⟩ := hXb
          have HSN := Lib.hid (sK_succ g' i)
          obtain ⟨X, hX⟩ : ∃ X, X = g i := ⟨_, rfl⟩
          obtain ⟨Y, hY⟩ : ∃ Y, Y = g' i := ⟨_, rfl⟩
          rw [← hX] at d3 hXY hX1 hX2
          rw [← hY] at hXY hY1 hY2 HSN
          have hwY : IntKind.i64.wrap Y = Y := IntWalk.i64_in _ (by omega)
          clear hX hY hown hgrow hat hP5 hB5 z0 z1 z2 q0 q1 q2
          go_wp2_with fail
          rw [← hW]
          clear hW hcN0 hfN0 hs5 t0
          rename_i Ka hKa Kb Qb K0 hK0
          refine (wpIn_wide (n := 8)).1 ?_
          refine PR.wpIn_region_inv hmx (by kernel_rfl) (fun listed ac w' =>
              ∃ (b0 b1 b2 b3 b4 b5 b6 b7 b8 b9 b10 b11 b12 b13 : Bool) (q' : Value) (hb : Nat), ((b1 = true → b0 = true) ∧ (b3 = true → b2 = true) ∧ (b5 = true → b3 = true ∧ b4 = true) ∧ (b6 = true → b5 = true) ∧ (b8 = true → b7 = true) ∧ (b9 = true → b6 = true ∧ b8 = true) ∧ (b10 = true → b9 = true) ∧ (b11 = true → b1 = true ∧ b10 = true) ∧ (b13 = true → b12 = true ∧ b11 = true)) ∧ listed = #[b0, b1, b2, b3, b4, b5, b6, b7, b8, b9, b10, b11, b12, b13] ∧
                ac = { tmps := #[.agg #[.slice a1 n c1, .slice a2 Q.length c2], .int .i64 s, .pointer (some ⟨w.heap.size, 0, none⟩), undef, .pointer (some ⟨w.heap.size + 1, 0, none⟩), .int .i64 0, .pointer (some ⟨Pv, 0, none⟩), .int .i64 0, .pointer (some ⟨N, 0, none⟩), .int .i64 i, .slice (some ⟨gu, 0, none⟩) n cu, .int .i64 n, .tuple #[.agg #[.int .i64 D, .slice (some ⟨bR, oR, none⟩) n c, .slice (some ⟨bS, oS, none⟩) n c'], .int .i64 0], .agg #[.slice a1 n c1, .slice a2 Q.length c2], .int .i64 s, .tuple #[.agg #[.int .i64 D, .slice (some ⟨bR, oR, none⟩) n c, .slice (some ⟨bS, oS, none⟩) n c'], .int .i64 0], .agg #[.int .i64 D, .slice (some ⟨bR, oR, none⟩) n c, .slice (some ⟨bS, oS, none⟩) n c'], .int .i64 0, .int .i64 0, .bool true, .bool true, .agg #[.int .i64 D, .slice (some ⟨bR, oR, none⟩) n c, .slice (some ⟨bS, oS, none⟩) n c'], .bool true, .bool false, .bool false, .int .i64 0, .bool false, undef, undef, .slice (some ⟨w2.heap.size, 0, none⟩) 0 0, .slice (some ⟨w2.heap.size + 1, 0, none⟩) 0 0, .agg #[.slice (some ⟨w2.heap.size, 0, none⟩) 0 0, .slice (some ⟨w2.heap.size + 1, 0, none⟩) 0 0], .int .i64 i, .pointer (some ⟨Pv, 2, none⟩), .slice (some ⟨bS, oS, none⟩) n c', .int .i64 n, .bool true, u37, u38, .slice (some ⟨W1.heap.size, 0, none⟩) 0 0, .int .i64 n, .pointer (some ⟨Pv, 2, none⟩), .slice (some ⟨bS, oS, none⟩) n c', .int .i64 n, .bool false, u45, u46, u47, u48, u49, u50, u51, u52, u53, u54, u55, u56, u57, u58, u59, u60, .pointer (some ⟨N, 0, none⟩), v, .slice (some ⟨gu, 0, none⟩) n cu, .slice (some ⟨wr.heap.size, 0, none⟩) 1 1, .slice (some ⟨g5, 0, none⟩) (i + 1) cap5, .pointer (some ⟨N, 0, none⟩), cond b0 (.pointer (some ⟨N, 1, none⟩)) (u67), cond b1 (q) (u68), cond b2 (.pointer (some ⟨Pv, 2, none⟩)) (u69), cond b3 (.slice (some ⟨bS, oS, none⟩) n c') (u70), cond b4 (.int .i64 i) (u71), cond b5 (.pointer (some ⟨bS, oS + i, none⟩)) (u72), cond b6 (.int .i64 X) (u73), cond b7 (.pointer (some ⟨Pv, 0, none⟩)) (u74), cond b8 (.int .i64 D) (u75), cond b9 (.int .i64 Y) (u76), cond b10 (.slice (some ⟨hb, 0, none⟩) 1 1) (u77), cond b11 (q') (u78), cond b12 (.pointer (some ⟨N, 1, none⟩)) (u79), undef, undef, undef, undef, undef], defers := [] } ∧ PqR w2 W w' w2.heap.size N i (.slice (some ⟨g5, 0, none⟩) (i + 1) cap5) q (rK n f' (i + 1)) (sK g' i) Y (vs ++ [.slice (some ⟨gu, 0, none⟩) n cu]) q' hb b10 b11 b13) ?_ ?_ ?_ ?_
          · rintro listed ac w' ⟨b0, b1, b2, b3, b4, b5, b6, b7, b8, b9, b10, b11, b12, b13, q', hb, _, rfl, _⟩
            rfl
          · rintro listed ac w' ⟨b0, b1, b2, b3, b4, b5, b6, b7, b8, b9, b10, b11, b12, b13, q', hb, _, rfl, rfl, hR⟩ hall
            have h0 := hall 0 (by simp)
            have h1 := hall 1 (by simp)
            have h2 := hall 2 (by simp)
            have h3 := hall 3 (by simp)
            have h4 := hall 4 (by simp)
            have h5 := hall 5 (by simp)
            have h6 := hall 6 (by simp)
            have h7 := hall 7 (by simp)
            have h8 := hall 8 (by simp)
            have h9 := hall 9 (by simp)
            have h10 := hall 10 (by simp)
            have h11 := hall 11 (by simp)
            have h12 := hall 12 (by simp)
            have h13 := hall 13 (by simp)
            simp at h0 h1 h2 h3 h4 h5 h6 h7 h8 h9 h10 h11 h12 h13
            subst h0 h1 h2 h3 h4 h5 h6 h7 h8 h9 h10 h11 h12 h13
            clear hall
            refine hKa _ _ ?_
            simp only [cond_true]
            obtain ⟨hfin, hlow⟩ := hR.fin rfl
            rw [← HSN.out] at hfin
            have HF := Lib.hid hfin
            have HL := Lib.hid hlow
            clear hR hfin hlow
            go_wp2_with fail
            go_roundw
            case rel => exact ⟨i + 1, _, _, _, by omega, by go_num, HF.out, HL.out⟩
            case measure => simp [intOf]; omega
          · exact ⟨false, false, false, false, false, false, false, false, false, false, false, false, false, false, undef, 0, by simp, rfl, rfl, ⟨fun _ => (Below.refl _ _).drew, fun e => (by cases e), fun e => (by cases e), fun e => (by cases e)⟩⟩
          · rintro listed ac w' i oi ⟨b0, b1, b2, b3, b4, b5, b6, b7, b8, b9, b10, b11, b12, b13, q', hb, ⟨e1, e3, e5, e6, e8, e9, e10, e11, e13⟩, rfl, rfl, hR⟩ ho hun hdep
            have hi : i < 14 := by simpa using (Array.getElem?_eq_some_iff.1 ho).1
            obtain rfl | rfl | rfl | rfl | rfl | rfl | rfl | rfl | rfl | rfl | rfl | rfl | rfl | rfl : i = 0 ∨ i = 1 ∨ i = 2 ∨ i = 3 ∨ i = 4 ∨ i = 5 ∨ i = 6 ∨ i = 7 ∨ i = 8 ∨ i = 9 ∨ i = 10 ∨ i = 11 ∨ i = 12 ∨ i = 13 := by omega
            · -- 0
              simp only [List.getElem?_toArray, List.getElem?_cons_zero, Option.some.injEq] at ho
              subst ho
              have hbi : b0 = false := by simpa using hun
              subst hbi
              obtain rfl : b1 = false := Bool.eq_false_iff.2 (fun h => Bool.noConfusion (e1 h))
              obtain rfl : b11 = false := Bool.eq_false_iff.2 (fun h => Bool.noConfusion (e11 h).1)
              obtain rfl : b13 = false := Bool.eq_false_iff.2 (fun h => Bool.noConfusion (e13 h).2)
              refine wpOpIn_step rfl (fun K hK => ?_)
              clear hun hdep hi
              go_simp
              refine hK _ _ ⟨true, false, b2, b3, b4, b5, b6, b7, b8, b9, b10, false, b12, false, q', hb, ⟨fun h => Bool.noConfusion h, e3, e5, e6, e8, e9, e10, fun h => Bool.noConfusion h, fun h => Bool.noConfusion h⟩, rfl, rfl, hR⟩
            · -- 1
              simp only [List.getElem?_toArray, List.getElem?_cons_succ, List.getElem?_cons_zero, Option.some.injEq] at ho
              subst ho
              have hbi : b1 = false := by simpa using hun
              subst hbi
              have hd0 : b0 = true := by have := hdep ⟨0, .data⟩ (by simp) rfl; simpa using this
              subst hd0
              obtain rfl : b11 = false := Bool.eq_false_iff.2 (fun h => Bool.noConfusion (e11 h).1)
              obtain rfl : b13 = false := Bool.eq_false_iff.2 (fun h => Bool.noConfusion (e13 h).2)
              refine wpOpIn_step rfl (fun K hK => ?_)
              clear hun hdep hi
              have t0 := ((hR.low rfl).cell (p := ⟨N, 1, none⟩) HP5.out.lt).trans HP5.out.c2
              go_simp
              refine hK _ _ ⟨true, true, b2, b3, b4, b5, b6, b7, b8, b9, b10, false, b12, false, q', hb, ⟨fun _ => rfl, e3, e5, e6, e8, e9, e10, fun h => Bool.noConfusion h, fun h => Bool.noConfusion h⟩, rfl, rfl, hR⟩
            · -- 2
              simp only [List.getElem?_toArray, List.getElem?_cons_succ, List.getElem?_cons_zero, Option.some.injEq] at ho
              subst ho
              have hbi : b2 = false := by simpa using hun
              subst hbi
              obtain rfl : b3 = false := Bool.eq_false_iff.2 (fun h => Bool.noConfusion (e3 h))
              obtain rfl : b5 = false := Bool.eq_false_iff.2 (fun h => Bool.noConfusion (e5 h).1)
              obtain rfl : b6 = false := Bool.eq_false_iff.2 (fun h => Bool.noConfusion (e6 h))
              obtain rfl : b9 = false := Bool.eq_false_iff.2 (fun h => Bool.noConfusion (e9 h).1)
              obtain rfl : b10 = false := Bool.eq_false_iff.2 (fun h => Bool.noConfusion (e10 h))
              obtain rfl : b11 = false := Bool.eq_false_iff.2 (fun h => Bool.noConfusion (e11 h).2)
              obtain rfl : b13 = false := Bool.eq_false_iff.2 (fun h => Bool.noConfusion (e13 h).2)
              refine wpOpIn_step rfl (fun K hK => ?_)
              clear hun hdep hi
              go_simp
              refine hK _ _ ⟨b0, b1, true, false, b4, false, false, b7, b8, false, false, false, b12, false, q', hb, ⟨e1, fun h => Bool.noConfusion h, fun h => Bool.noConfusion h, fun h => Bool.noConfusion h, e8, fun h => Bool.noConfusion h, fun h => Bool.noConfusion h, fun h => Bool.noConfusion h, fun h => Bool.noConfusion h⟩, rfl, rfl, hR⟩
            · -- 3
              simp only [List.getElem?_toArray, List.getElem?_cons_succ, List.getElem?_cons_zero, Option.some.injEq] at ho
              subst ho
              have hbi : b3 = false := by simpa using hun
              subst hbi
              have hd2 : b2 = true := by have := hdep ⟨2, .data⟩ (by simp) rfl; simpa using this
              subst hd2
              obtain rfl : b5 = false := Bool.eq_false_iff.2 (fun h => Bool.noConfusion (e5 h).1)
              obtain rfl : b6 = false := Bool.eq_false_iff.2 (fun h => Bool.noConfusion (e6 h))
              obtain rfl : b9 = false := Bool.eq_false_iff.2 (fun h => Bool.noConfusion (e9 h).1)
              obtain rfl : b10 = false := Bool.eq_false_iff.2 (fun h => Bool.noConfusion (e10 h))
              obtain rfl : b11 = false := Bool.eq_false_iff.2 (fun h => Bool.noConfusion (e11 h).2)
              obtain rfl : b13 = false := Bool.eq_false_iff.2 (fun h => Bool.noConfusion (e13 h).2)
              refine wpOpIn_step rfl (fun K hK => ?_)
              clear hun hdep hi
              have t0 := ((hR.low rfl).cell (p := ⟨Pv, 2, none⟩) hPW2).trans q2'
              go_simp
              refine hK _ _ ⟨b0, b1, true, true, b4, false, false, b7, b8, false, false, false, b12, false, q', hb, ⟨e1, fun _ => rfl, fun h => Bool.noConfusion h, fun h => Bool.noConfusion h, e8, fun h => Bool.noConfusion h, fun h => Bool.noConfusion h, fun h => Bool.noConfusion h, fun h => Bool.noConfusion h⟩, rfl, rfl, hR⟩
            · -- 4
              simp only [List.getElem?_toArray, List.getElem?_cons_succ, List.getElem?_cons_zero, Option.some.injEq] at ho
              subst ho
              have hbi : b4 = false := by simpa using hun
              subst hbi
              obtain rfl : b5 = false := Bool.eq_false_iff.2 (fun h => Bool.noConfusion (e5 h).2)
              obtain rfl : b6 = false := Bool.eq_false_iff.2 (fun h => Bool.noConfusion (e6 h))
              obtain rfl : b9 = false := Bool.eq_false_iff.2 (fun h => Bool.noConfusion (e9 h).1)
              obtain rfl : b10 = false := Bool.eq_false_iff.2 (fun h => Bool.noConfusion (e10 h))
              obtain rfl : b11 = false := Bool.eq_false_iff.2 (fun h => Bool.noConfusion (e11 h).2)
              obtain rfl : b13 = false := Bool.eq_false_iff.2 (fun h => Bool.noConfusion (e13 h).2)
              refine wpOpIn_step rfl (fun K hK => ?_)
              clear hun hdep hi
              go_simp
              refine hK _ _ ⟨b0, b1, b2, b3, true, false, false, b7, b8, false, false, false, b12, false, q', hb, ⟨e1, e3, fun h => Bool.noConfusion h, fun h => Bool.noConfusion h, e8, fun h => Bool.noConfusion h, fun h => Bool.noConfusion h, fun h => Bool.noConfusion h, fun h => Bool.noConfusion h⟩, rfl, rfl, hR⟩
            · -- 5
              simp only [List.getElem?_toArray, List.getElem?_cons_succ, List.getElem?_cons_zero, Option.some.injEq] at ho
              subst ho
              have hbi : b5 = false := by simpa using hun
              subst hbi
              have hd3 : b3 = true := by have := hdep ⟨3, .data⟩ (by simp) rfl; simpa using this
              have hd4 : b4 = true := by have := hdep ⟨4, .data⟩ (by simp) rfl; simpa using this
              have hd2 : b2 = true := (e3 hd3)
              subst hd2 hd3 hd4
              obtain rfl : b6 = false := Bool.eq_false_iff.2 (fun h => Bool.noConfusion (e6 h))
              obtain rfl : b9 = false := Bool.eq_false_iff.2 (fun h => Bool.noConfusion (e9 h).1)
              obtain rfl : b10 = false := Bool.eq_false_iff.2 (fun h => Bool.noConfusion (e10 h))
              obtain rfl : b11 = false := Bool.eq_false_iff.2 (fun h => Bool.noConfusion (e11 h).2)
              obtain rfl : b13 = false := Bool.eq_false_iff.2 (fun h => Bool.noConfusion (e13 h).2)
              refine wpOpIn_step rfl (fun K hK => ?_)
              clear hun hdep hi
              go_simp
              refine hK _ _ ⟨b0, b1, true, true, true, true, false, b7, b8, false, false, false, b12, false, q', hb, ⟨e1, fun _ => rfl, fun _ => ⟨rfl, rfl⟩, fun h => Bool.noConfusion h, e8, fun h => Bool.noConfusion h, fun h => Bool.noConfusion h, fun h => Bool.noConfusion h, fun h => Bool.noConfusion h⟩, rfl, rfl, hR⟩
            · -- 6
              simp only [List.getElem?_toArray, List.getElem?_cons_succ, List.getElem?_cons_zero, Option.some.injEq] at ho
              subst ho
              have hbi : b6 = false := by simpa using hun
              subst hbi
              have hd5 : b5 = true := by have := hdep ⟨5, .data⟩ (by simp) rfl; simpa using this
              have hd4 : b4 = true := (e5 hd5).2
              have hd3 : b3 = true := (e5 hd5).1
              have hd2 : b2 = true := (e3 hd3)
              subst hd2 hd3 hd4 hd5
              obtain rfl : b9 = false := Bool.eq_false_iff.2 (fun h => Bool.noConfusion (e9 h).1)
              obtain rfl : b10 = false := Bool.eq_false_iff.2 (fun h => Bool.noConfusion (e10 h))
              obtain rfl : b11 = false := Bool.eq_false_iff.2 (fun h => Bool.noConfusion (e11 h).2)
              obtain rfl : b13 = false := Bool.eq_false_iff.2 (fun h => Bool.noConfusion (e13 h).2)
              refine wpOpIn_step rfl (fun K hK => ?_)
              clear hun hdep hi
              have t0 := ((hR.low rfl).cell (p := ⟨bS, oS + i, none⟩) hbSw).trans d3
              go_simp
              refine hK _ _ ⟨b0, b1, true, true, true, true, true, b7, b8, false, false, false, b12, false, q', hb, ⟨e1, fun _ => rfl, fun _ => ⟨rfl, rfl⟩, fun _ => rfl, e8, fun h => Bool.noConfusion h, fun h => Bool.noConfusion h, fun h => Bool.noConfusion h, fun h => Bool.noConfusion h⟩, rfl, rfl, hR⟩
            · -- 7
              simp only [List.getElem?_toArray, List.getElem?_cons_succ, List.getElem?_cons_zero, Option.some.injEq] at ho
              subst ho
              have hbi : b7 = false := by simpa using hun
              subst hbi
              obtain rfl : b8 = false := Bool.eq_false_iff.2 (fun h => Bool.noConfusion (e8 h))
              obtain rfl : b9 = false := Bool.eq_false_iff.2 (fun h => Bool.noConfusion (e9 h).2)
              obtain rfl : b10 = false := Bool.eq_false_iff.2 (fun h => Bool.noConfusion (e10 h))
              obtain rfl : b11 = false := Bool.eq_false_iff.2 (fun h => Bool.noConfusion (e11 h).2)
              obtain rfl : b13 = false := Bool.eq_false_iff.2 (fun h => Bool.noConfusion (e13 h).2)
              refine wpOpIn_step rfl (fun K hK => ?_)
              clear hun hdep hi
              go_simp
              refine hK _ _ ⟨b0, b1, b2, b3, b4, b5, b6, true, false, false, false, false, b12, false, q', hb, ⟨e1, e3, e5, e6, fun h => Bool.noConfusion h, fun h => Bool.noConfusion h, fun h => Bool.noConfusion h, fun h => Bool.noConfusion h, fun h => Bool.noConfusion h⟩, rfl, rfl, hR⟩
            · -- 8
              simp only [List.getElem?_toArray, List.getElem?_cons_succ, List.getElem?_cons_zero, Option.some.injEq] at ho
              subst ho
              have hbi : b8 = false := by simpa using hun
              subst hbi
              have hd7 : b7 = true := by have := hdep ⟨7, .data⟩ (by simp) rfl; simpa using this
              subst hd7
              obtain rfl : b9 = false := Bool.eq_false_iff.2 (fun h => Bool.noConfusion (e9 h).2)
              obtain rfl : b10 = false := Bool.eq_false_iff.2 (fun h => Bool.noConfusion (e10 h))
              obtain rfl : b11 = false := Bool.eq_false_iff.2 (fun h => Bool.noConfusion (e11 h).2)
              obtain rfl : b13 = false := Bool.eq_false_iff.2 (fun h => Bool.noConfusion (e13 h).2)
              refine wpOpIn_step rfl (fun K hK => ?_)
              clear hun hdep hi
              have t0 := ((hR.low rfl).cell (p := ⟨Pv, 0, none⟩) hPW2).trans q0'
              go_simp
              refine hK _ _ ⟨b0, b1, b2, b3, b4, b5, b6, true, true, false, false, false, b12, false, q', hb, ⟨e1, e3, e5, e6, fun _ => rfl, fun h => Bool.noConfusion h, fun h => Bool.noConfusion h, fun h => Bool.noConfusion h, fun h => Bool.noConfusion h⟩, rfl, rfl, hR⟩
            · -- 9
              simp only [List.getElem?_toArray, List.getElem?_cons_succ, List.getElem?_cons_zero, Option.some.injEq] at ho
              subst ho
              have hbi : b9 = false := by simpa using hun
              subst hbi
              have hd6 : b6 = true := by have := hdep ⟨6, .data⟩ (by simp) rfl; simpa using this
              have hd8 : b8 = true := by have := hdep ⟨8, .data⟩ (by simp) rfl; simpa using this
              have hd7 : b7 = true := (e8 hd8)
              have hd5 : b5 = true := (e6 hd6)
              have hd4 : b4 = true := (e5 hd5).2
              have hd3 : b3 = true := (e5 hd5).1
              have hd2 : b2 = true := (e3 hd3)
              subst hd2 hd3 hd4 hd5 hd6 hd7 hd8
              obtain rfl : b10 = false := Bool.eq_false_iff.2 (fun h => Bool.noConfusion (e10 h))
              obtain rfl : b11 = false := Bool.eq_false_iff.2 (fun h => Bool.noConfusion (e11 h).2)
              obtain rfl : b13 = false := Bool.eq_false_iff.2 (fun h => Bool.noConfusion (e13 h).2)
              refine wpOpIn_step rfl (fun K hK => ?_)
              clear hun hdep hi
              go_simp
              refine hK _ _ ⟨b0, b1, true, true, true, true, true, true, true, true, false, false, b12, false, q', hb, ⟨e1, fun _ => rfl, fun _ => ⟨rfl, rfl⟩, fun _ => rfl, fun _ => rfl, fun _ => ⟨rfl, rfl⟩, fun h => Bool.noConfusion h, fun h => Bool.noConfusion h, fun h => Bool.noConfusion h⟩, rfl, rfl, hR⟩
            · -- 10
              simp only [List.getElem?_toArray, List.getElem?_cons_succ, List.getElem?_cons_zero, Option.some.injEq] at ho
              subst ho
              have hbi : b10 = false := by simpa using hun
              subst hbi
              have hd9 : b9 = true := by have := hdep ⟨9, .data⟩ (by simp) rfl; simpa using this
              have hd8 : b8 = true := (e9 hd9).2
              have hd7 : b7 = true := (e8 hd8)
              have hd6 : b6 = true := (e9 hd9).1
              have hd5 : b5 = true := (e6 hd6)
              have hd4 : b4 = true := (e5 hd5).2
              have hd3 : b3 = true := (e5 hd5).1
              have hd2 : b2 = true := (e3 hd3)
              subst hd2 hd3 hd4 hd5 hd6 hd7 hd8 hd9
              obtain rfl : b11 = false := Bool.eq_false_iff.2 (fun h => Bool.noConfusion (e11 h).2)
              obtain rfl : b13 = false := Bool.eq_false_iff.2 (fun h => Bool.noConfusion (e13 h).2)
              refine wpOpIn_step rfl (fun K hK => ?_)
              clear hun hdep hi
              go_simp
              refine hK _ _ ⟨b0, b1, true, true, true, true, true, true, true, true, true, false, b12, false, q', w'.heap.size, ⟨e1, fun _ => rfl, fun _ => ⟨rfl, rfl⟩, fun _ => rfl, fun _ => rfl, fun _ => ⟨rfl, rfl⟩, fun _ => rfl, fun h => Bool.noConfusion h, fun h => Bool.noConfusion h⟩, rfl, rfl, hR.box_⟩
            · -- 11
              simp only [List.getElem?_toArray, List.getElem?_cons_succ, List.getElem?_cons_zero, Option.some.injEq] at ho
              subst ho
              have hbi : b11 = false := by simpa using hun
              subst hbi
              have hd1 : b1 = true := by have := hdep ⟨1, .data⟩ (by simp) rfl; simpa using this
              have hd10 : b10 = true := by have := hdep ⟨10, .data⟩ (by simp) rfl; simpa using this
              have hd9 : b9 = true := (e10 hd10)
              have hd8 : b8 = true := (e9 hd9).2
              have hd7 : b7 = true := (e8 hd8)
              have hd6 : b6 = true := (e9 hd9).1
              have hd5 : b5 = true := (e6 hd6)
              have hd4 : b4 = true := (e5 hd5).2
              have hd3 : b3 = true := (e5 hd5).1
              have hd2 : b2 = true := (e3 hd3)
              have hd0 : b0 = true := (e1 hd1)
              subst hd0 hd1 hd2 hd3 hd4 hd5 hd6 hd7 hd8 hd9 hd10
              obtain rfl : b13 = false := Bool.eq_false_iff.2 (fun h => Bool.noConfusion (e13 h).2)
              refine wpOpIn_step rfl (fun K hK => ?_)
              clear hun hdep hi
              refine PR.stepIn_append_lies _ rfl _ _ 23 rfl 0 2 j0 (.int .i64 0) 1 8 Tryd.underlying23 hj' hyy0 hyy1 hyy2 rfl (by decide) q i _ rfl (HP5.out.ownQ (hR.low rfl) (sK_length g' i)) ⟨hb, 0, none⟩ 1 1 [.int .i64 Y] rfl rfl (news_one (hR.box rfl rfl)) (by simp [Value.oneCell']) (by decide) (by unfold maxLen; omega) (by omega) (Nat.zero_le _) ?_
              intro g2 cap w'' hown hgrow hat hgl
              refine hK _ _ ⟨true, true, true, true, true, true, true, true, true, true, true, true, b12, false, (.slice (some ⟨g2, 0, none⟩) (i + 1) cap), hb, ⟨fun _ => rfl, fun _ => rfl, fun _ => ⟨rfl, rfl⟩, fun _ => rfl, fun _ => rfl, fun _ => ⟨rfl, rfl⟩, fun _ => rfl, fun _ => ⟨rfl, rfl⟩, fun h => Bool.noConfusion h⟩, rfl, rfl, hR.app_ hown hgrow hat hgl⟩
            · -- 12
              simp only [List.getElem?_toArray, List.getElem?_cons_succ, List.getElem?_cons_zero, Option.some.injEq] at ho
              subst ho
              have hbi : b12 = false := by simpa using hun
              subst hbi
              obtain rfl : b13 = false := Bool.eq_false_iff.2 (fun h => Bool.noConfusion (e13 h).1)
              refine wpOpIn_step rfl (fun K hK => ?_)
              clear hun hdep hi
              go_simp
              refine hK _ _ ⟨b0, b1, b2, b3, b4, b5, b6, b7, b8, b9, b10, b11, true, false, q', hb, ⟨e1, e3, e5, e6, e8, e9, e10, e11, fun h => Bool.noConfusion h⟩, rfl, rfl, hR⟩
            · -- 13
              simp only [List.getElem?_toArray, List.getElem?_cons_succ, List.getElem?_cons_zero, Option.some.injEq] at ho
              subst ho
              have hbi : b13 = false := by simpa using hun
              subst hbi
              have hd11 : b11 = true := by have := hdep ⟨11, .data⟩ (by simp) rfl; simpa using this
              have hd12 : b12 = true := by have := hdep ⟨12, .data⟩ (by simp) rfl; simpa using this
              have hd10 : b10 = true := (e11 hd11).2
              have hd9 : b9 = true := (e10 hd10)
              have hd8 : b8 = true := (e9 hd9).2
              have hd7 : b7 = true := (e8 hd8)
              have hd6 : b6 = true := (e9 hd9).1
              have hd5 : b5 = true := (e6 hd6)
              have hd4 : b4 = true := (e5 hd5).2
              have hd3 : b3 = true := (e5 hd5).1
              have hd2 : b2 = true := (e3 hd3)
              have hd1 : b1 = true := (e11 hd11).1
              have hd0 : b0 = true := (e1 hd1)
              subst hd0 hd1 hd2 hd3 hd4 hd5 hd6 hd7 hd8 hd9 hd10 hd11 hd12
              refine wpOpIn_step rfl (fun K hK => ?_)
              clear hun hdep hi
              obtain ⟨w3', g2, cap, rfl, hl3', _, hgr, _, _⟩ := hR.app rfl rfl
              obtain ⟨f1', f2', f3'⟩ := HP5.out.far hl3' hgr HP5.out.qN
              have t0 := (f2' 1).trans HP5.out.c2
              have t1 := f3' 1
              clear f1' f2' f3' hl3' hgr
              go_simp
              refine hK _ _ ⟨true, true, true, true, true, true, true, true, true, true, true, true, true, true, (.slice (some ⟨g2, 0, none⟩) (i + 1) cap), hb, ⟨fun _ => rfl, fun _ => rfl, fun _ => ⟨rfl, rfl⟩, fun _ => rfl, fun _ => rfl, fun _ => ⟨rfl, rfl⟩, fun _ => rfl, fun _ => ⟨rfl, rfl⟩, fun _ => ⟨rfl, rfl⟩⟩, rfl, rfl, hR.store_ HP5.out (sK_length g' i) HB5.out⟩
    · obtain rfl : i = n := by omega
      have hM := hPg.ownP
      rw [rK_all] at hM
      obtain ⟨gv, cv, rfl⟩ : ∃ g c, v = .slice (some ⟨g, 0, none⟩) i c := by
        have hl' := tab_length i f'
        rcases hM.rows.rows.top.2 with ⟨hv, hn⟩ | ⟨g, cap, cur, hv, _⟩
        · omega
        · exact ⟨g, cap, by rw [hv, hl']⟩
      obtain ⟨gq, cq, rfl⟩ : ∃ g c, q = .slice (some ⟨g, 0, none⟩) i c := own_at1 hM.side (sK_length g' i) hn1
      have t0 := hPg.c1
      have t1 := hPg.c2
      have htN := hPg.lt
      have hRw := hM.rows.rows.rows' HFI.out.1
      have hIw := hM.side.ints HFI.out.2
      have r0 := (hB.cell (p := ⟨w.heap.size + 1, 0, none⟩) (by show w.heap.size + 1 < _; omega)).trans l0
      have r1 := (hB.cell (p := ⟨w.heap.size + 1, 1, none⟩) (by show w.heap.size + 1 < _; omega)).trans l1
      have r3 := fun o => (hB.frozen (p := ⟨w.heap.size + 1, o, none⟩) (by show w.heap.size + 1 < _; omega)).trans (l3 o)
      have hwr : Below w.heap.size w wr := hW2.trans (hB.mono (by omega))
      have hlr : w.heap.size + 1 < wr.heap.size := by omega
      have HM := Lib.hid hM
      have HIP := Lib.hid (l01Is_any _ _ (tab i f') (sK g' i) wr hRw hIw)
      clear hPg hM hRw hIw hB q0 q1 hPS hBS
      go_wp2_with fail
      refine HIP.out.mono ?_; rintro e w5 ⟨rfl, hb5⟩
      have s0 := (hb5.cell (p := ⟨w.heap.size + 1, 0, none⟩) hlr).trans r0
      have s1 := (hb5.cell (p := ⟨w.heap.size + 1, 1, none⟩) hlr).trans r1
      have s3 := fun o => (hb5.frozen (p := ⟨w.heap.size + 1, o, none⟩) hlr).trans (r3 o)
      have u0 := (hb5.cell (p := ⟨N, 0, none⟩) htN).trans t0
      have u1 := (hb5.cell (p := ⟨N, 1, none⟩) htN).trans t1
      have hw5 : Below w.heap.size w w5 := hwr.trans (hb5.mono hwr.size)
      have HM5 := Lib.hid (HM.out.below hb5)
      clear hb5 r0 r1 r3 t0 t1 HM HIP
      cases hpb : isPB (tab i f') (sK g' i)
      · have HO := Lib.hid (HE3.out trivial hpb)
        clear hpb
        go_wp2_with fail
        refine bodyPost_ret (v := .tuple #[.agg #[.slice none 0 0, .slice none 0 0], .int .i64 3]) (by simp [*, results, Tryd.results22, go_sem]) rfl ?_
        rw [HO.out]
        exact outP_err ((hw5.setCell (p := ⟨w.heap.size + 1, 0, none⟩) (by show w.heap.size ≤ w.heap.size + 1; omega) _).setCell (p := ⟨w.heap.size + 1, 1, none⟩) (by show w.heap.size ≤ w.heap.size + 1; omega) _)
      · have HO := Lib.hid (HOK.out trivial hpb)
        clear hpb
        go_wp2_with fail
        refine bodyPost_ret (v := .tuple #[.agg #[.slice (some ⟨gv, 0, none⟩) i cv, .slice (some ⟨gq, 0, none⟩) i cq], .int .i64 0]) (by simp [*, results, Tryd.results22, go_sem]) rfl ?_
        rw [HO.out]
        have ht : Tch [w.heap.size + 1] w5 ((w5.setCell ⟨w.heap.size + 1, 0, none⟩ (.slice (some ⟨gv, 0, none⟩) i cv)).setCell ⟨w.heap.size + 1, 1, none⟩ (.slice (some ⟨gq, 0, none⟩) i cq)) := ((Tch.refl _ _).setCell (by simp) _).setCell (by simp) _
        exact ⟨_, _, vs, rfl, ((HM5.out.old ht (fun b hb => by simp at hb; omega)).mono (by omega)).ownP, hw5.trans (ht.below (fun b hb => by simp at hb; omega))⟩
set_option maxHeartbeats 2000000 in
theorem law_FnExactPivotedProblem (m q : Value) (M : List (List Int)) (Q : List Int) (s : Int) (w : World) (hG : Glob w) (h1 : PM.Rows w m M) (h2 : Ints w q Q) :
    Calls Tryd.prog 5 #[.agg #[m, q], .int .i64 s] w fun e w' => e = .returned (.bool true) ∧ Below w.heap.size w w' := by
  have g1 := fun (w' : World) (h : Below w.heap.size w w') => h1.below h
  have gl := fun (w' : World) (h : Below w.heap.size w w') => hG.below h
  clear hG
  have g2 := fun (w' : World) (h : Below w.heap.size w w') => h2.below h
  have I1 := Lib.hid (rows_I64 h1)
  have I2 := Lib.hid (ints_I64 h2)
  obtain ⟨a1, c1, rfl, _⟩ := h1
  obtain ⟨a2, c2, rfl, _⟩ := h2
  by_cases hz : szP M Q 1048576 < 0
  · have e1 := szP_neg hz
    have E1 := Lib.hid e1
    clear hz e1
    go_enter Tryd.func5, Tryd.ntmps5
    go_wp2_with fail
    refine (szProblem_any _ _ M Q _ (g1 _ (by (repeat' (first | (with_reducible exact Below.refl _ _) | (with_reducible assumption) | (with_reducible refine Below.alloc ?_ ?_ _) | (with_reducible refine Below.drew ?_) | (with_reducible refine below_drewN ?_ _) | (with_reducible refine Below.setCell ?_ ?_ _) | (with_reducible refine Below.trans ?_ (Below.mono (by with_reducible assumption) ?_)) | (with_reducible exact Below.size (by with_reducible assumption)) | go_size)))) (g2 _ (by (repeat' (first | (with_reducible exact Below.refl _ _) | (with_reducible assumption) | (with_reducible refine Below.alloc ?_ ?_ _) | (with_reducible refine Below.drew ?_) | (with_reducible refine below_drewN ?_ _) | (with_reducible refine Below.setCell ?_ ?_ _) | (with_reducible refine Below.trans ?_ (Below.mono (by with_reducible assumption) ?_)) | (with_reducible exact Below.size (by with_reducible assumption)) | go_size))))).mono ?_; rw [E1.out]; rintro e w1 ⟨rfl, hb1⟩; obtain ⟨hc_hb1, hf_hb1⟩ := bcell hb1; obtain ⟨hcA_hb1, hfA_hb1⟩ := bcellG (W0 := w) hb1 (by (repeat' (first | (with_reducible exact Below.refl _ _) | (with_reducible assumption) | (with_reducible refine Below.alloc ?_ ?_ _) | (with_reducible refine Below.drew ?_) | (with_reducible refine below_drewN ?_ _) | (with_reducible refine Below.setCell ?_ ?_ _) | (with_reducible refine Below.trans ?_ (Below.mono (by with_reducible assumption) ?_)) | (with_reducible exact Below.size (by with_reducible assumption)) | go_size))); have hz_hb1 := hb1.size; (try simp at hz_hb1); (try simp only [Nat.add_one_le_iff] at hz_hb1); have hz0_hb1 : w.heap.size < w1.heap.size := (by omega)
    go_wp2_with fail
    go_ret
    refine ⟨rfl, ?_⟩
    (repeat' (first | (with_reducible exact Below.refl _ _) | (with_reducible assumption) | (with_reducible refine Below.alloc ?_ ?_ _) | (with_reducible refine Below.drew ?_) | (with_reducible refine below_drewN ?_ _) | (with_reducible refine Below.setCell ?_ ?_ _) | (with_reducible refine Below.trans ?_ (Below.mono (by with_reducible assumption) ?_)) | (with_reducible exact Below.size (by with_reducible assumption)) | go_size))
  obtain ⟨hn1, hn2⟩ := szP_fits hz
  have hle := szP_le M Q
  have HN1 := Lib.hid hn1
  have HN2 := Lib.hid hn2
  clear hn1 hn2
  have hspec := fun (m q : Value) (w : World) (h1 : PM.Rows w m M) (h2 : Ints w q Q) => specPivotedProblem_any m q M Q s w h1 h2
  have himpl := fun (m q : Value) (w : World) (hg : Glob w) (h1 : PM.Rows w m M) (h2 : Ints w q Q) => implPivotedProblem_any m q M Q s w hg h1 h2
  have hfine := fine_pp M Q s
  generalize ppOut M Q s = o at *
  obtain ⟨MO, QO, code⟩ := o
  have HS := Lib.hid hspec
  have HI := Lib.hid himpl
  have HF := Lib.hid hfine
  clear hspec himpl hfine
  go_enter Tryd.func5, Tryd.ntmps5
  go_wp2_with fail
  refine (szProblem_any _ _ M Q _ (g1 _ (by (repeat' (first | (with_reducible exact Below.refl _ _) | (with_reducible assumption) | (with_reducible refine Below.alloc ?_ ?_ _) | (with_reducible refine Below.drew ?_) | (with_reducible refine below_drewN ?_ _) | (with_reducible refine Below.setCell ?_ ?_ _) | (with_reducible refine Below.trans ?_ (Below.mono (by with_reducible assumption) ?_)) | (with_reducible exact Below.size (by with_reducible assumption)) | go_size)))) (g2 _ (by (repeat' (first | (with_reducible exact Below.refl _ _) | (with_reducible assumption) | (with_reducible refine Below.alloc ?_ ?_ _) | (with_reducible refine Below.drew ?_) | (with_reducible refine below_drewN ?_ _) | (with_reducible refine Below.setCell ?_ ?_ _) | (with_reducible refine Below.trans ?_ (Below.mono (by with_reducible assumption) ?_)) | (with_reducible exact Below.size (by with_reducible assumption)) | go_size))))).mono ?_; rintro e w1 ⟨rfl, hb1⟩; obtain ⟨hc_hb1, hf_hb1⟩ := bcell hb1; obtain ⟨hcA_hb1, hfA_hb1⟩ := bcellG (W0 := w) hb1 (by (repeat' (first | (with_reducible exact Below.refl _ _) | (with_reducible assumption) | (with_reducible refine Below.alloc ?_ ?_ _) | (with_reducible refine Below.drew ?_) | (with_reducible refine below_drewN ?_ _) | (with_reducible refine Below.setCell ?_ ?_ _) | (with_reducible refine Below.trans ?_ (Below.mono (by with_reducible assumption) ?_)) | (with_reducible exact Below.size (by with_reducible assumption)) | go_size))); have hz_hb1 := hb1.size; (try simp at hz_hb1); (try simp only [Nat.add_one_le_iff] at hz_hb1); have hz0_hb1 : w.heap.size < w1.heap.size := (by omega)
  generalize szP M Q 1048576 = left at *
  have hw1 : Below w.heap.size w w1 := by (repeat' (first | (with_reducible exact Below.refl _ _) | (with_reducible assumption) | (with_reducible refine Below.alloc ?_ ?_ _) | (with_reducible refine Below.drew ?_) | (with_reducible refine below_drewN ?_ _) | (with_reducible refine Below.setCell ?_ ?_ _) | (with_reducible refine Below.trans ?_ (Below.mono (by with_reducible assumption) ?_)) | (with_reducible exact Below.size (by with_reducible assumption)) | go_size))
  go_wp2_with fail
  refine (toProblem_out _ _ M Q _ (g1 _ (by (repeat' (first | (with_reducible exact Below.refl _ _) | (with_reducible assumption) | (with_reducible refine Below.alloc ?_ ?_ _) | (with_reducible refine Below.drew ?_) | (with_reducible refine below_drewN ?_ _) | (with_reducible refine Below.setCell ?_ ?_ _) | (with_reducible refine Below.trans ?_ (Below.mono (by with_reducible assumption) ?_)) | (with_reducible exact Below.size (by with_reducible assumption)) | go_size)))) (g2 _ (by (repeat' (first | (with_reducible exact Below.refl _ _) | (with_reducible assumption) | (with_reducible refine Below.alloc ?_ ?_ _) | (with_reducible refine Below.drew ?_) | (with_reducible refine below_drewN ?_ _) | (with_reducible refine Below.setCell ?_ ?_ _) | (with_reducible refine Below.trans ?_ (Below.mono (by with_reducible assumption) ?_)) | (with_reducible exact Below.size (by with_reducible assumption)) | go_size)))) HN1.out HN2.out).mono ?_; rintro e w2 ⟨gA, gB, us2, rfl, hr2, hb2⟩; obtain ⟨hc_hb2, hf_hb2⟩ := bcell hb2; obtain ⟨hcA_hb2, hfA_hb2⟩ := bcellG (W0 := w1) hb2 (by (repeat' (first | (with_reducible exact Below.refl _ _) | (with_reducible assumption) | (with_reducible refine Below.alloc ?_ ?_ _) | (with_reducible refine Below.drew ?_) | (with_reducible refine below_drewN ?_ _) | (with_reducible refine Below.setCell ?_ ?_ _) | (with_reducible refine Below.trans ?_ (Below.mono (by with_reducible assumption) ?_)) | (with_reducible exact Below.size (by with_reducible assumption)) | go_size))); have hz_hb2 := hb2.size; (try simp at hz_hb2); (try simp only [Nat.add_one_le_iff] at hz_hb2); have hz0_hb2 : w.heap.size < w2.heap.size := (by omega)
  have R2 := Lib.hid (hr2.reads I1.out I2.out)
  clear hr2
  have hw2 : Below w.heap.size w w2 := hw1.trans (hb2.mono hw1.size)
  go_wp2_with fail
  refine (HS.out _ _ _ R2.out.1 R2.out.2).mono ?_; rintro e w3 ho3; obtain ⟨a3, c3, b3, d3, us3, rfl, hr3, hb3⟩ := ho3.out; clear ho3; dsimp only at hr3; dsimp only; obtain ⟨hc_hb3, hf_hb3⟩ := bcell hb3; obtain ⟨hcA_hb3, hfA_hb3⟩ := bcellG (W0 := w2) hb3 (by (repeat' (first | (with_reducible exact Below.refl _ _) | (with_reducible assumption) | (with_reducible refine Below.alloc ?_ ?_ _) | (with_reducible refine Below.drew ?_) | (with_reducible refine below_drewN ?_ _) | (with_reducible refine Below.setCell ?_ ?_ _) | (with_reducible refine Below.trans ?_ (Below.mono (by with_reducible assumption) ?_)) | (with_reducible exact Below.size (by with_reducible assumption)) | go_size))); have hz_hb3 := hb3.size; (try simp at hz_hb3); (try simp only [Nat.add_one_le_iff] at hz_hb3); have hz0_hb3 : w.heap.size < w3.heap.size := (by omega)
  have HR3 := Lib.hid hr3
  clear hr3 R2
  have hw3 : Below w.heap.size w w3 := hw2.trans (hb3.mono hw2.size)
  go_wp2_with fail
  refine (toProblem_out _ _ M Q _ (g1 _ (by (repeat' (first | (with_reducible exact Below.refl _ _) | (with_reducible assumption) | (with_reducible refine Below.alloc ?_ ?_ _) | (with_reducible refine Below.drew ?_) | (with_reducible refine below_drewN ?_ _) | (with_reducible refine Below.setCell ?_ ?_ _) | (with_reducible refine Below.trans ?_ (Below.mono (by with_reducible assumption) ?_)) | (with_reducible exact Below.size (by with_reducible assumption)) | go_size)))) (g2 _ (by (repeat' (first | (with_reducible exact Below.refl _ _) | (with_reducible assumption) | (with_reducible refine Below.alloc ?_ ?_ _) | (with_reducible refine Below.drew ?_) | (with_reducible refine below_drewN ?_ _) | (with_reducible refine Below.setCell ?_ ?_ _) | (with_reducible refine Below.trans ?_ (Below.mono (by with_reducible assumption) ?_)) | (with_reducible exact Below.size (by with_reducible assumption)) | go_size)))) HN1.out HN2.out).mono ?_; rintro e w4 ⟨gC, gD, us4, rfl, hr4, hb4⟩; obtain ⟨hc_hb4, hf_hb4⟩ := bcell hb4; obtain ⟨hcA_hb4, hfA_hb4⟩ := bcellG (W0 := w3) hb4 (by (repeat' (first | (with_reducible exact Below.refl _ _) | (with_reducible assumption) | (with_reducible refine Below.alloc ?_ ?_ _) | (with_reducible refine Below.drew ?_) | (with_reducible refine below_drewN ?_ _) | (with_reducible refine Below.setCell ?_ ?_ _) | (with_reducible refine Below.trans ?_ (Below.mono (by with_reducible assumption) ?_)) | (with_reducible exact Below.size (by with_reducible assumption)) | go_size))); have hz_hb4 := hb4.size; (try simp at hz_hb4); (try simp only [Nat.add_one_le_iff] at hz_hb4); have hz0_hb4 : w.heap.size < w4.heap.size := (by omega)
  have hz34 : w3.heap.size < w4.heap.size := by omega
  have HR4 := Lib.hid hr4
  clear hr4
  have hw34 : Below w3.heap.size w3 w4 := ((Below.refl w3.heap.size w3).alloc (Nat.le_refl _) _).trans (hb4.mono (by simp))
  have hw4 : Below w.heap.size w w4 := hw3.trans (hw34.mono hw3.size)
  have e40 : w4.cell? ⟨w3.heap.size, 0, none⟩ = some (.slice a3 MO.length c3) := by rw [hc_hb4 _ _ (by simp)]; simp
  have e41 : w4.cell? ⟨w3.heap.size, 1, none⟩ = some (.slice b3 QO.length d3) := by rw [hc_hb4 _ _ (by simp)]; simp
  go_wp2_with fail
  have hr4a := HR4.out.below (w' := w4.alloc (.cells #[.slice (some ⟨gC, 0, none⟩) M.length M.length, .slice (some ⟨gD, 0, none⟩) Q.length Q.length] 31)) (B := w4.heap.size) ((Below.refl _ _).alloc (Nat.le_refl _) _) (Nat.le_refl _)
  have R4 := Lib.hid (hr4a.reads I1.out I2.out)
  clear hr4a
  refine (HI.out _ _ _ (gl _ (by (repeat' (first | (with_reducible exact Below.refl _ _) | (with_reducible assumption) | (with_reducible refine Below.alloc ?_ ?_ _) | (with_reducible refine Below.drew ?_) | (with_reducible refine below_drewN ?_ _) | (with_reducible refine Below.setCell ?_ ?_ _) | (with_reducible refine Below.trans ?_ (Below.mono (by with_reducible assumption) ?_)) | (with_reducible exact Below.size (by with_reducible assumption)) | go_size)))) R4.out.1 R4.out.2).mono ?_; rintro e w5 ho5; obtain ⟨a5, c5, b5, d5, us5, rfl, hr5, hb5⟩ := ho5.out; clear ho5; dsimp only at hr5; dsimp only; obtain ⟨hc_hb5, hf_hb5⟩ := bcell hb5; obtain ⟨hcA_hb5, hfA_hb5⟩ := bcellG (W0 := w4) hb5 (by (repeat' (first | (with_reducible exact Below.refl _ _) | (with_reducible assumption) | (with_reducible refine Below.alloc ?_ ?_ _) | (with_reducible refine Below.drew ?_) | (with_reducible refine below_drewN ?_ _) | (with_reducible refine Below.setCell ?_ ?_ _) | (with_reducible refine Below.trans ?_ (Below.mono (by with_reducible assumption) ?_)) | (with_reducible exact Below.size (by with_reducible assumption)) | go_size))); have hz_hb5 := hb5.size; (try simp at hz_hb5); (try simp only [Nat.add_one_le_iff] at hz_hb5); have hz0_hb5 : w.heap.size < w5.heap.size := (by omega)
  have hz45 : w4.heap.size < w5.heap.size := by omega
  have HR5 := Lib.hid hr5
  clear hr5 R4
  have hw45 : Below w4.heap.size w4 w5 := ((Below.refl w4.heap.size w4).alloc (Nat.le_refl _) _).trans (hb5.mono (by simp))
  have hz35 : w3.heap.size < w5.heap.size := by omega
  have e50 : w5.cell? ⟨w3.heap.size, 0, none⟩ = some (.slice a3 MO.length c3) := (hw45.cell (p := ⟨w3.heap.size, 0, none⟩) hz34).trans e40
  have e51 : w5.cell? ⟨w3.heap.size, 1, none⟩ = some (.slice b3 QO.length d3) := (hw45.cell (p := ⟨w3.heap.size, 1, none⟩) hz34).trans e41
  have x50 : w5.cell? ⟨w4.heap.size, 0, none⟩ = some (.slice (some ⟨gC, 0, none⟩) M.length M.length) := by rw [hc_hb5 _ _ (by simp)]; simp
  have x51 : w5.cell? ⟨w4.heap.size, 1, none⟩ = some (.slice (some ⟨gD, 0, none⟩) Q.length Q.length) := by rw [hc_hb5 _ _ (by simp)]; simp
  go_wp2_with fail
  obtain ⟨W6, hW6⟩ : ∃ W6, W6 = w5.alloc (.cells #[.slice a5 MO.length c5, .slice b5 QO.length d5] 31) := ⟨_, rfl⟩
  rw [← hW6]
  have hz6 : w5.heap.size + 1 = W6.heap.size := by rw [hW6]; simp
  have hW56 : Below w5.heap.size w5 W6 := by rw [hW6]; exact (Below.refl _ _).alloc (Nat.le_refl _) _
  have hw13 : Below w1.heap.size w1 w3 := hb2.trans (hb3.mono hb2.size)
  have hw14 : Below w1.heap.size w1 w4 := hw13.trans (hw34.mono hw13.size)
  have hw15 : Below w1.heap.size w1 w5 := hw14.trans (hw45.mono hw14.size)
  have hw16 : Below w1.heap.size w1 W6 := hw15.trans (hW56.mono hw15.size)
  have hw35 : Below w3.heap.size w3 w5 := hw34.trans (hw45.mono hw34.size)
  have hw36 : Below w3.heap.size w3 W6 := hw35.trans (hW56.mono hw35.size)
  have hw46 : Below w4.heap.size w4 W6 := hw45.trans (hW56.mono hw45.size)
  have hw6 : Below w.heap.size w W6 := hw3.trans (hw36.mono hw3.size)
  have p10 : w1.cell? ⟨w.heap.size, 0, none⟩ = some (.slice a1 M.length c1) := by rw [hc_hb1 _ _ (by simp)]; simp
  have p11 : w1.cell? ⟨w.heap.size, 1, none⟩ = some (.slice a2 Q.length c2) := by rw [hc_hb1 _ _ (by simp)]; simp
  have hl1 : w.heap.size < w3.heap.size := by omega
  have hvs : Vs W6 w.heap.size w3.heap.size w5.heap.size (.slice a1 M.length c1) (.slice a2 Q.length c2) (.slice a3 MO.length c3) (.slice b3 QO.length d3) (.slice a5 MO.length c5) (.slice b5 QO.length d5) :=
    ⟨(hw16.cell (p := ⟨w.heap.size, 0, none⟩) hz0_hb1).trans p10, (hw16.cell (p := ⟨w.heap.size, 1, none⟩) hz0_hb1).trans p11, (hW56.cell (p := ⟨w3.heap.size, 0, none⟩) hz35).trans e50, (hW56.cell (p := ⟨w3.heap.size, 1, none⟩) hz35).trans e51, by rw [hW6]; simp, by rw [hW6]; simp, by omega, by omega, by omega⟩
  have hx0 : W6.cell? ⟨w4.heap.size, 0, none⟩ = some (.slice (some ⟨gC, 0, none⟩) M.length M.length) := (hW56.cell (p := ⟨w4.heap.size, 0, none⟩) hz45).trans x50
  have hx1 : W6.cell? ⟨w4.heap.size, 1, none⟩ = some (.slice (some ⟨gD, 0, none⟩) Q.length Q.length) := (hW56.cell (p := ⟨w4.heap.size, 1, none⟩) hz45).trans x51
  have hA6 := HR3.out.below (hw36) (Nat.le_refl _)
  have hX6 := HR4.out.below (hw46) (Nat.le_refl _)
  have hG6 := HR5.out.below (hW56) (Nat.le_refl _)
  rw [show (w3.alloc (.cells #[.slice a3 MO.length c3, .slice b3 QO.length d3] 31)).heap.size = w3.heap.size + 1 by simp] at hX6
  rw [show (w4.alloc (.cells #[.slice (some ⟨gC, 0, none⟩) M.length M.length, .slice (some ⟨gD, 0, none⟩) Q.length Q.length] 31)).heap.size = w4.heap.size + 1 by simp] at hG6
  obtain ⟨P, hP⟩ : ∃ P, P = w.heap.size := ⟨_, rfl⟩
  obtain ⟨V0, hV0⟩ : ∃ V0, V0 = w3.heap.size := ⟨_, rfl⟩
  obtain ⟨V1, hV1⟩ : ∃ V1, V1 = w4.heap.size := ⟨_, rfl⟩
  obtain ⟨V2, hV2⟩ : ∃ V2, V2 = w5.heap.size := ⟨_, rfl⟩
  obtain ⟨V3, hV3⟩ : ∃ V3, V3 = w2.heap.size := ⟨_, rfl⟩
  rw [← hP] at hvs hl1
  rw [← hV0] at hvs hA6 hX6 hz34 hl1
  rw [← hV1] at hx0 hx1 hX6 hG6 hz34 hz45
  rw [← hV2] at hvs hG6 hz6 hz45
  rw [← hV3] at hA6
  rw [← hP, ← hV0, ← hV1, ← hV2]
  have hPw : P ≤ w.heap.size := by omega
  have hwP : w.heap.size ≤ P := by omega
  clear hP hV0 hV1 hV2 hV3 hW6 hW56 hw13 hw14 hw15 hw16 hw35 hw36 hw46 p10 p11 e40 e41 e50 e51 x50 x51 hz35 HR3 HR4 HR5 hw1 hw2 hw3 hw34 hw4 hw45
  clear hc_hb1 hf_hb1 hcA_hb1 hfA_hb1 hz_hb1 hz0_hb1 hb1 hc_hb2 hf_hb2 hcA_hb2 hfA_hb2 hz_hb2 hz0_hb2 hb2 hc_hb3 hf_hb3 hcA_hb3 hfA_hb3 hz_hb3 hz0_hb3 hb3 hc_hb4 hf_hb4 hcA_hb4 hfA_hb4 hz_hb4 hz0_hb4 hb4 hc_hb5 hf_hb5 hcA_hb5 hfA_hb5 hz_hb5 hz0_hb5 hb5
  clear w1 w2 w3 w4 w5
  have hf1 := HF.out.m64
  have hf2 := HF.out.q64
  have hf3 := HF.out.tot
  have hf4 := HF.out.len
  dsimp only at hf1 hf2 hf3 hf4
  have F1 := Lib.hid hf1
  have F2 := Lib.hid hf2
  have F3 := Lib.hid hf3
  have F4 := Lib.hid hf4
  clear hf1 hf2 hf3 hf4 HF HS
  refine (eqProblem_same _ _ _ _ MO QO _ (hG6.reads F1.out F2.out).1 (hG6.reads F1.out F2.out).2 (hA6.reads F1.out F2.out).1 (hA6.reads F1.out F2.out).2).mono ?_; rintro e w7 ⟨rfl, hb7⟩
  have v7 := hvs.next hb7
  have hw7 : Below w.heap.size w w7 := hw6.trans (hb7.mono hw6.size)
  have hX7 := hX6.below hb7 (by omega)
  have hG7 := hG6.below hb7 (by omega)
  have hA7 := hA6.below hb7 (by omega)
  have hx70 := (hb7.cell (p := ⟨V1, 0, none⟩) (by show V1 < _; omega)).trans hx0
  have hx71 := (hb7.cell (p := ⟨V1, 1, none⟩) (by show V1 < _; omega)).trans hx1
  have hz7 : V2 < w7.heap.size := v7.lG
  have HX := Lib.hid hX7
  have HG := Lib.hid hG7
  have HA := Lib.hid hA7
  have HV := Lib.hid v7
  have RX := Lib.hid (hX7.reads I1.out I2.out)
  obtain ⟨c1, c2, c3, c4, c5, c6, l1, l2, l3⟩ := v7
  have r1 : ∀ w', Below w7.heap.size w7 w' → w'.cell? ⟨P, 0, none⟩ = some (.slice a1 M.length _) := fun w' h => (h.cell (p := ⟨P, 0, none⟩) (by show P < _; omega)).trans c1
  have r2 : ∀ w', Below w7.heap.size w7 w' → w'.cell? ⟨P, 1, none⟩ = some (.slice a2 Q.length _) := fun w' h => (h.cell (p := ⟨P, 1, none⟩) (by show P < _; omega)).trans c2
  have r3 : ∀ w', Below w7.heap.size w7 w' → w'.cell? ⟨V1, 0, none⟩ = some (.slice (some ⟨gC, 0, none⟩) M.length M.length) := fun w' h => (h.cell (p := ⟨V1, 0, none⟩) (by show V1 < _; omega)).trans hx70
  have r4 : ∀ w', Below w7.heap.size w7 w' → w'.cell? ⟨V1, 1, none⟩ = some (.slice (some ⟨gD, 0, none⟩) Q.length Q.length) := fun w' h => (h.cell (p := ⟨V1, 1, none⟩) (by show V1 < _; omega)).trans hx71
  clear hvs hX6 hG6 hA6 hX7 hG7 hA7 hb7 hx0 hx1 hx70 hx71 hw6 hz6 c1 c2 c3 c4 c5 c6 l1 l2 l3
  clear W6
  go_wp2_with fail
  go_region_held3 (fun w' => Below w7.heap.size w7 w') ((repeat' (first | (with_reducible exact Below.refl _ _) | (with_reducible assumption) | (with_reducible refine Below.alloc ?_ ?_ _) | (with_reducible refine Below.drew ?_) | (with_reducible refine below_drewN ?_ _) | (with_reducible refine Below.setCell ?_ ?_ _) | (with_reducible refine Below.trans ?_ (Below.mono (by with_reducible assumption) ?_)) | (with_reducible exact Below.size (by with_reducible assumption)) | go_size)))
    (first | (go_at_call 13; refine (toProblem_out _ _ M Q _ (g1 _ (hw7.trans (Below.mono (by assumption) hw7.size))) (g2 _ (hw7.trans (Below.mono (by assumption) hw7.size))) HN1.out HN2.out).mono ?_; rintro e w8 ⟨gE, gF, us8, rfl, hr8, hb8⟩; have hS8 : Below w7.heap.size w7 w8 := (by (repeat' (first | (with_reducible exact Below.refl _ _) | (with_reducible assumption) | (with_reducible refine Below.alloc ?_ ?_ _) | (with_reducible refine Below.drew ?_) | (with_reducible refine below_drewN ?_ _) | (with_reducible refine Below.setCell ?_ ?_ _) | (with_reducible refine Below.trans ?_ (Below.mono (by with_reducible assumption) ?_)) | (with_reducible exact Below.size (by with_reducible assumption)) | go_size))); have R8 := Lib.hid (hr8.reads I1.out I2.out); clear hr8) | (go_at_call 16; refine (eqProblem_same _ _ _ _ M Q _ (RX.out.1.below hS8) (RX.out.2.below hS8) R8.out.1 R8.out.2).mono ?_; rintro e w9 ⟨rfl, hb9⟩; have hS9 : Below w7.heap.size w7 w9 := (by (repeat' (first | (with_reducible exact Below.refl _ _) | (with_reducible assumption) | (with_reducible refine Below.alloc ?_ ?_ _) | (with_reducible refine Below.drew ?_) | (with_reducible refine below_drewN ?_ _) | (with_reducible refine Below.setCell ?_ ?_ _) | (with_reducible refine Below.trans ?_ (Below.mono (by with_reducible assumption) ?_)) | (with_reducible exact Below.size (by with_reducible assumption)) | go_size)))))
  have x90 := r3 _ hS9
  have x91 := r4 _ hS9
  have v9 := HV.out.next hS9
  have hw9 : Below w.heap.size w w9 := hw7.trans (hS9.mono hw7.size)
  have hX9 := HX.out.below hS9 (by omega)
  have HG9 := Lib.hid (HG.out.below hS9 (by omega))
  have HA9 := Lib.hid (HA.out.below hS9 (by omega))
  have hz9 : V2 < w9.heap.size := v9.lG
  have HV9 := Lib.hid v9
  have HX9 := Lib.hid hX9
  clear v9 hX9 HX HG HA HV RX R8 r1 r2 r3 r4 hS9 hb9 hS8 hb8 hw7 hz7
  have hkb : (1 : Int) + tot M + Q.length ≤ 4611686018427387904 := by have := HN1.out; have := HN2.out; omega
  have hc10 := markProblem_any (V0 + 1) V1 _ _ M Q us4 1 _ HX9.out (by omega) (by decide) hkb
  generalize pre M M.length = pM at hc10
  have hp0 : 0 ≤ (1 : Int) + pM + Q.length := by omega
  have HC10 := Lib.hid hc10
  clear hc10 hkb
  go_wp2_with fail
  refine HC10.out.mono ?_; rintro e w10 ⟨rfl, _, hbt10⟩
  have v10 := HV9.out.bet hbt10 (.inl (by omega)) (.inl (by omega)) (.inr (by omega))
  have hw10 : Below w.heap.size w w10 := hw9.trans ((hbt10.below (by omega)).mono (by omega))
  have hG10 := HG9.out.bet hbt10 (.inr (by omega))
  have hA10 := HA9.out.bet hbt10 (.inl (by omega))
  have hz10 : V2 < w10.heap.size := v10.lG
  have RG := Lib.hid (hG10.reads F1.out F2.out)
  have RA := Lib.hid (hA10.reads F1.out F2.out)
  have HG10 := Lib.hid hG10
  have HA10 := Lib.hid hA10
  have HV10 := Lib.hid v10
  obtain ⟨c1, c2, c3, c4, c5, c6, l1, l2, l3⟩ := v10
  clear HC10 HX9 HV9 HG9 HA9 hG10 hA10 hbt10 hw9 hz9 x90 x91 c1 c2 l1 l2 l3
  go_wp2_with fail
  refine (eqProblem_same _ _ _ _ MO QO _ RG.out.1 RG.out.2 RA.out.1 RA.out.2).mono ?_; rintro e w11 ⟨rfl, hb11⟩
  have v11 := HV10.out.next hb11
  have hw11 : Below w.heap.size w w11 := hw10.trans (hb11.mono hw10.size)
  have hG11 := HG10.out.below hb11 (by omega)
  have HA11 := Lib.hid (HA10.out.below hb11 (by omega))
  have hz11 : V2 < w11.heap.size := v11.lG
  have hkb : (1 : Int) + tot MO + QO.length ≤ 4611686018427387904 := by have := F3.out; have := F4.out; omega
  have hc12 := markProblem_any (V1 + 1) V2 _ _ MO QO us5 1 _ hG11 (by omega) (by decide) hkb
  have hc13 := fun m q w h1 h2 => heldProblem_any m q MO QO.length 1 w h1 h2 (by decide) hkb
  have hm1 : ∀ i, i < (marksR 1 MO).length → ∀ x ∈ (marksR 1 MO).getD i [], I64 x := marksR_i64 (by decide) (by omega)
  have hm2 : ∀ x ∈ marks (1 + (pre MO MO.length : Int)) QO.length, I64 x := marks_i64 (by omega) (by have := pre_le MO MO.length; unfold tot at hkb; omega)
  generalize pre MO MO.length = pO at hc12 hc13 hm2
  have hp1 : 0 ≤ (1 : Int) + pO + QO.length := by omega
  have HC12 := Lib.hid hc12
  have HC13 := Lib.hid hc13
  have M1 := Lib.hid hm1
  have M2 := Lib.hid hm2
  have HV11 := Lib.hid v11
  obtain ⟨c1', c2', c3, c4, c5, c6, l1, l2, l3⟩ := v11
  clear hc12 hc13 hkb hm1 hm2 hG11 RG RA HG10 HA10 HV10 hb11 hw10 hz10 c1' c2' l1 l2 l3
  go_wp2_with fail
  refine HC12.out.mono ?_; rintro e w12 ⟨rfl, hm12, hbt12⟩
  have v12 := HV11.out.bet hbt12 (.inl (by omega)) (.inl (by omega)) (.inr (by omega))
  have hw12 : Below w.heap.size w w12 := hw11.trans ((hbt12.below (by omega)).mono (by omega))
  have hA12 := HA11.out.bet hbt12 (.inl (by omega))
  have hz12 : V2 < w12.heap.size := v12.lG
  have HM12 := Lib.hid hm12
  have HA12 := Lib.hid hA12
  have HV12 := Lib.hid v12
  obtain ⟨c1', c2', c3', c4', c5', c6', l1, l2, l3⟩ := v12
  clear HC12 HV11 HA11 hA12 hm12 hbt12 hw11 hz11 c1' c2' c3 c4 c5 c6 l1 l2 l3
  go_wp2_with fail
  refine (HC13.out _ _ _ (HM12.out.reads M1.out M2.out).1 (HM12.out.reads M1.out M2.out).2).mono ?_; rintro e w13 ⟨rfl, hb13⟩
  have v13 := HV12.out.next hb13
  have hw13 : Below w.heap.size w w13 := hw12.trans (hb13.mono hw12.size)
  have HM13 := Lib.hid (HM12.out.below hb13 (by omega))
  have HA13 := Lib.hid (HA12.out.below hb13 (by omega))
  have hz13 : V2 < w13.heap.size := v13.lG
  have HV13 := Lib.hid v13
  obtain ⟨q1, q2, q3, q4, q5, q6, l1, l2, l3⟩ := v13
  clear HM12 HA12 HV12 hb13 hw12 hz12 c3' c4' c5' c6' l1 l2 l3
  go_wp2_with fail
  refine (toProblem_out _ _ M Q _ (g1 _ hw13) (g2 _ hw13) HN1.out HN2.out).mono ?_; rintro e w14 ⟨gE, gF, us14, rfl, hr14, hb14⟩
  have v14 := HV13.out.next hb14
  have hw14 : Below w.heap.size w w14 := hw13.trans (hb14.mono hw13.size)
  have R14 := Lib.hid (hr14.reads I1.out I2.out)
  have HM14 := Lib.hid (HM13.out.below hb14 (by omega))
  have HA14 := Lib.hid (HA13.out.below hb14 (by omega))
  have hz14 : V2 < w14.heap.size := v14.lG
  have HV14 := Lib.hid v14
  clear v14 hr14 HV13 HM13 HA13 hb14 hw13 hz13 q1 q2 q3 q4 q5 q6
  go_wp2_with fail
  refine (HI.out _ _ _ (gl _ (by (repeat' (first | (with_reducible exact Below.refl _ _) | (with_reducible assumption) | (with_reducible refine Below.alloc ?_ ?_ _) | (with_reducible refine Below.drew ?_) | (with_reducible refine below_drewN ?_ _) | (with_reducible refine Below.setCell ?_ ?_ _) | (with_reducible refine Below.trans ?_ (Below.mono (by with_reducible assumption) ?_)) | (with_reducible exact Below.size (by with_reducible assumption)) | go_size)))) R14.out.1 R14.out.2).mono ?_; rintro e w15 ho15; obtain ⟨a15, c15, b15, d15, us15, rfl, hr15, hb15⟩ := ho15.out; clear ho15; dsimp only at hr15; dsimp only
  have v15 := HV14.out.next hb15
  have hw15 : Below w.heap.size w w15 := hw14.trans (hb15.mono hw14.size)
  have HM15 := Lib.hid (HM14.out.below hb15 (by omega))
  have hA15 := HA14.out.below hb15 (by omega)
  have hz15 : V2 < w15.heap.size := v15.lG
  have hal : Below w15.heap.size w15 (w15.alloc (.cells #[.slice a15 MO.length c15, .slice b15 QO.length d15] 31)) := (Below.refl _ _).alloc (Nat.le_refl _) _
  have RH := Lib.hid ((hr15.below hal (Nat.le_refl _)).reads F1.out F2.out)
  have RA := Lib.hid ((hA15.below hal (by omega)).reads F1.out F2.out)
  have HV15 := Lib.hid v15
  obtain ⟨q1, q2, q3, q4, q5, q6, l1, l2, l3⟩ := v15
  have hA0 : V0 < w15.heap.size := by omega
  clear hr15 hA15 HV14 HM14 HA14 hb15 hw14 hz14 R14 l1 l2 l3 q1 q2
  go_wp2_with fail
  refine (eqProblem_same _ _ _ _ MO QO _ RH.out.1 RH.out.2 RA.out.1 RA.out.2).mono ?_; rintro e w16 ⟨rfl, hb16⟩
  have hb16' : Below w15.heap.size w15 w16 := hal.trans (hb16.mono (by simp))
  have v16 := HV15.out.next hb16'
  have hw16 : Below w.heap.size w w16 := hw15.trans (hb16'.mono hw15.size)
  have HM16 := Lib.hid (HM15.out.below hb16' (by omega))
  obtain ⟨s1, s2, s3, s4, s5, s6, l1, l2, l3⟩ := v16
  clear HV15 HM15 hb16 hb16' hal hw15 RH RA q3 q4 q5 q6 s1 s2 s3 s4 l1 l2 l3
  go_wp2_with fail
  refine (HC13.out _ _ _ (HM16.out.reads M1.out M2.out).1 (HM16.out.reads M1.out M2.out).2).mono ?_; rintro e w17 ⟨rfl, hb17⟩
  have hw17 : Below w.heap.size w w17 := hw16.trans (hb17.mono hw16.size)
  go_wp2_with fail
  go_ret
  exact ⟨rfl, hw17⟩
end Go.Proofs.YthnefjllijoobaaDoor.PW
