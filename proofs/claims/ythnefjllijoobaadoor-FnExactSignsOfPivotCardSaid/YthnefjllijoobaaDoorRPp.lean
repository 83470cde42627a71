/-
  Walks: the pivoted problem in the program.
-/
import Derived.Test.YthnefjllijoobaaDoorRInv
import Derived.Test.YthnefjllijoobaaDoorRPgG
namespace Go.Proofs.YthnefjllijoobaaDoor.PW
open Go.RowKit Go.Proofs.YthnefjllijoobaaDoor
open Go.Proofs.YthnefjllijoobaaDoor.PM Go.Proofs.YthnefjllijoobaaDoor.PX

def ppR (M : List (List Int)) (s : Int) (i k : Nat) : Int := (pvR M s i k).tdiv (pvD M s)
def ppS (M : List (List Int)) (Q : List Int) (s : Int) (i : Nat) : Int := (pvS M Q s i).tdiv (pvD M s)
def ppOut (M : List (List Int)) (Q : List Int) (s : Int) : List (List Int) × List Int × Int :=
  if (pvOut M Q s).c ≠ 0 then ([], [], (pvOut M Q s).c)
  else if whB M.length (pvR M s) (pvS M Q s) (pvD M s) = false then ([], [], 5)
  else if isPB (tab M.length (ppR M s)) ((List.range M.length).map (ppS M Q s)) = false then ([], [], 3)
  else (tab M.length (ppR M s), (List.range M.length).map (ppS M Q s), 0)
theorem ppOut_e1 {M : List (List Int)} {Q : List Int} {s : Int} (h : (pvOut M Q s).c ≠ 0) : ppOut M Q s = ([], [], (pvOut M Q s).c) := by unfold ppOut; rw [if_pos h]
theorem ppOut_e2 {M : List (List Int)} {Q : List Int} {s : Int} (h : (pvOut M Q s).c = 0) (h2 : whB M.length (pvR M s) (pvS M Q s) (pvD M s) = false) : ppOut M Q s = ([], [], 5) := by unfold ppOut; rw [if_neg (by omega), if_pos h2]
theorem ppOut_e3 {M : List (List Int)} {Q : List Int} {s : Int} (h : (pvOut M Q s).c = 0) (h2 : whB M.length (pvR M s) (pvS M Q s) (pvD M s) = true) (h3 : isPB (tab M.length (ppR M s)) ((List.range M.length).map (ppS M Q s)) = false) : ppOut M Q s = ([], [], 3) := by
  unfold ppOut; rw [if_neg (by omega), if_neg (by simp [h2]), if_pos h3]
theorem ppOut_ok {M : List (List Int)} {Q : List Int} {s : Int} (h : (pvOut M Q s).c = 0) (h2 : whB M.length (pvR M s) (pvS M Q s) (pvD M s) = true) (h3 : isPB (tab M.length (ppR M s)) ((List.range M.length).map (ppS M Q s)) = true) :
    ppOut M Q s = (tab M.length (ppR M s), (List.range M.length).map (ppS M Q s), 0) := by
  unfold ppOut; rw [if_neg (by omega), if_neg (by simp [h2]), if_neg (by simp [h3])]
theorem fine_pp (M : List (List Int)) (Q : List Int) (s : Int) : Fine (ppOut M Q s) := by
  by_cases h : (pvOut M Q s).c = 0
  · cases h2 : whB M.length (pvR M s) (pvS M Q s) (pvD M s)
    · rw [ppOut_e2 h h2]; exact fine_nil _
    · cases h3 : isPB (tab M.length (ppR M s)) ((List.range M.length).map (ppS M Q s))
      · rw [ppOut_e3 h h2 h3]; exact fine_nil _
      · rw [ppOut_ok h h2 h3]; exact fine_of_isPB _ h3
  · rw [ppOut_e1 h]; exact fine_nil _
theorem PvM.ownP {lo : Nat} {w : World} {v q : Value} {R : List (List Int)} {S : List Int} {us : List Value} (h : PvM lo w v q R S us) : OwnP lo w v q R S us :=
  ⟨h.rows.rows, h.side, h.rows.mb, h.qb, h.rows.ub, fun b hb => ⟨fun c => own_apart h.rows.rows.top h.side (by decide) c hb, fun i hi c => h.qu i b hi c hb⟩⟩
theorem outP_err {w w' : World} {c : Int} (hB : Below w.heap.size w w') : OutP w ([], [], c) (.returned (.tuple #[.agg #[.slice none 0 0, .slice none 0 0], .int .i64 c])) w' := ⟨_, _, [], rfl, (PvM.nil _ _).ownP, hB⟩
/-- The first k rows. -/
def rK (n : Nat) (f : Nat → Nat → Int) (k : Nat) : List (List Int) := (List.range k).map fun i => (List.range n).map (f i)
theorem rK_succ (n : Nat) (f : Nat → Nat → Int) (k : Nat) : rK n f (k + 1) = rK n f k ++ [(List.range n).map (f k)] := by simp [rK, List.range_succ]
theorem rK_length (n : Nat) (f : Nat → Nat → Int) (k : Nat) : (rK n f k).length = k := by simp [rK]
theorem rK_all (n : Nat) (f : Nat → Nat → Int) : rK n f n = tab n f := rfl

/-- While a row of the result is appended: what has been laid. -/
structure PpR (wB W w' : World) (B N n cb k : Nat) (v q : Value) (R : List (List Int)) (S xs : List Int) (us : List Value) (v' : Value) (g h : Nat) (b5 b6 b7 b9 : Bool) : Prop where
  low : b7 = false → Below W.heap.size W w'
  lst : b5 = true → b7 = false → FreshI W.heap.size w' (.slice (some ⟨g, 0, none⟩) n cb) xs
  box : b6 = true → b7 = false → w'.cell? ⟨h, 0, none⟩ = some (.slice (some ⟨g, 0, none⟩) n cb)
  app : b7 = true → b9 = false → ∃ w3 g2 cap, v' = .slice (some ⟨g2, 0, none⟩) (k + 1) cap ∧ Below W.heap.size W w3 ∧ FreshI W.heap.size w3 (.slice (some ⟨g, 0, none⟩) n cb) xs ∧
    w'.ownsRow 0 23 1 (.slice (some ⟨g2, 0, none⟩) (k + 1) cap) (k + 1) (us ++ [.slice (some ⟨g, 0, none⟩) n cb]) ∧ w3.grownBy w' v.ownBlock ∧ (v.ownBlock = some g2 ∨ g2 = w3.heap.size)
  fin : b9 = true → PgG B w' N v' q (R ++ [xs]) S (us ++ [.slice (some ⟨g, 0, none⟩) n cb]) ∧ Below B wB w'
theorem PpR.call {wB W w' w'' : World} {B N n cb cb' k g g' h : Nat} {v q v' : Value} {R : List (List Int)} {S xs : List Int} {us : List Value} (hR : PpR wB W w' B N n cb k v q R S xs us v' g h false false false false)
    (hF : FreshI w'.heap.size w'' (.slice (some ⟨g', 0, none⟩) n cb') xs) (hb : Below w'.heap.size w' w'') : PpR wB W w'' B N n cb' k v q R S xs us v' g' h true false false false :=
  ⟨fun _ => (hR.low rfl).trans (hb.mono (hR.low rfl).size), fun _ _ => hF.mono (hR.low rfl).size, fun e => (by cases e), fun e => (by cases e), fun e => (by cases e)⟩
theorem PpR.box_ {wB W w' : World} {B N n cb k g h : Nat} {v q v' : Value} {R : List (List Int)} {S xs : List Int} {us : List Value} (hR : PpR wB W w' B N n cb k v q R S xs us v' g h true false false false) :
    PpR wB W (w'.alloc (.cells #[.slice (some ⟨g, 0, none⟩) n cb] 23)) B N n cb k v q R S xs us v' g w'.heap.size true true false false := by
  have hal : Below w'.heap.size w' (w'.alloc (.cells #[.slice (some ⟨g, 0, none⟩) n cb] 23)) := (Below.refl _ _).alloc (Nat.le_refl _) _
  exact ⟨fun _ => (hR.low rfl).trans (hal.mono (hR.low rfl).size), fun _ _ => (hR.lst rfl rfl).below hal, fun _ _ => by simp, fun e => (by cases e), fun e => (by cases e)⟩
theorem PpR.app_ {wB W w' w'' : World} {B N n cb k g h g2 cap : Nat} {v q v' : Value} {R : List (List Int)} {S xs : List Int} {us : List Value} (hR : PpR wB W w' B N n cb k v q R S xs us v' g h true true false false)
    (hown : w''.ownsRow 0 23 1 (.slice (some ⟨g2, 0, none⟩) (k + 1) cap) (k + 1) (us ++ [.slice (some ⟨g, 0, none⟩) n cb])) (hgrow : w'.grownBy w'' v.ownBlock) (hat : v.ownBlock = some g2 ∨ g2 = w'.heap.size) :
    PpR wB W w'' B N n cb k v q R S xs us (.slice (some ⟨g2, 0, none⟩) (k + 1) cap) g h true true true false :=
  ⟨fun e => (by cases e), fun _ e => (by cases e), fun _ e => (by cases e), fun _ _ => ⟨w', g2, cap, rfl, hR.low rfl, hR.lst rfl rfl, hown, hgrow, hat⟩, fun e => (by cases e)⟩
theorem PpR.store_ {wB W w' : World} {B N n cb k g h g2 cap : Nat} {v q : Value} {R : List (List Int)} {S xs : List Int} {us : List Value} (hR : PpR wB W w' B N n cb k v q R S xs us (.slice (some ⟨g2, 0, none⟩) (k + 1) cap) g h true true true false)
    (hP : PgG B W N v q R S us) (hk : R.length = k) (hwB : Below B wB W) :
    PpR wB W (w'.setCell ⟨N, 0, none⟩ (.slice (some ⟨g2, 0, none⟩) (k + 1) cap)) B N n cb k v q R S xs us (.slice (some ⟨g2, 0, none⟩) (k + 1) cap) g h true true true true := by
  obtain ⟨w3, g3, cap3, hv, hlow, hF, hown, hgrow, hat⟩ := hR.app rfl rfl
  simp only [Value.slice.injEq, Option.some.injEq, Addr.mk.injEq, and_true, true_and] at hv
  obtain ⟨rfl, rfl⟩ := hv
  exact ⟨fun e => (by cases e), fun _ e => (by cases e), fun _ e => (by cases e), fun _ e => (by cases e), fun _ => ⟨hP.rowF hlow hF (Nat.le_refl _) hk hown hgrow hat, pvG_low hwB hP.BN hP.lt hlow hgrow (fun b hb => (hP.rows.mb b hb).1)⟩⟩

set_option maxRecDepth 100000 in
set_option maxHeartbeats 8000000 in
theorem implPivotedProblem_any (m q : Value) (M : List (List Int)) (Q : List Int) (s : Int) (w : World) (hG : Glob w) (h1 : PM.Rows w m M) (h2 : Ints w q Q) :
    Calls Tryd.prog 23 #[.agg #[m, q], .int .i64 s] w (OutP w (ppOut M Q s)) := by
  have hmx : Tryd.prog.follows .mixedOrders = true := by kernel_rfl
  have hpv := fun (w' : World) (h : Below w.heap.size w w') => implPivotOf_any m q M Q s w' (hG.below h) (h1.below h) (h2.below h)
  obtain ⟨a1, c1, rfl, _⟩ := h1
  obtain ⟨a2, c2, rfl, _⟩ := h2
  clear hG
  by_cases hc : (pvOut M Q s).c = 0
  case neg =>
    rw [ppOut_e1 hc]
    have HP := Lib.hid hpv
    clear hpv
    generalize pvOut M Q s = o at *
    obtain ⟨D, R, S, c0⟩ := o
    dsimp only at hc ⊢
    have hcb : (c0 == 0) = false := by simpa using hc
    go_enter Tryd.func23, Tryd.ntmps23
    go_wp2_with fail
    refine (HP.out _ (by (repeat' (first | (with_reducible exact Below.refl _ _) | (with_reducible assumption) | (with_reducible refine Below.alloc ?_ ?_ _) | (with_reducible refine Below.drew ?_) | (with_reducible refine below_drewN ?_ _) | (with_reducible refine Below.setCell ?_ ?_ _) | (with_reducible refine Below.trans ?_ (Below.mono (by with_reducible assumption) ?_)) | (with_reducible exact Below.size (by with_reducible assumption)) | go_size)))).mono ?_; rintro e w1 ⟨a, c, a', c', us, rfl, hM, hb1⟩
    dsimp only
    have hw1 : Below w.heap.size w w1 := by (repeat' (first | (with_reducible exact Below.refl _ _) | (with_reducible assumption) | (with_reducible refine Below.alloc ?_ ?_ _) | (with_reducible refine Below.drew ?_) | (with_reducible refine below_drewN ?_ _) | (with_reducible refine Below.setCell ?_ ?_ _) | (with_reducible refine Below.trans ?_ (Below.mono (by with_reducible assumption) ?_)) | (with_reducible exact Below.size (by with_reducible assumption)) | go_size))
    have hl : w.heap.size + 1 < w1.heap.size := by have := hb1.size; simp at this; omega
    have y0 : w1.cell? ⟨w.heap.size + 1, 0, none⟩ = some (.slice none 0 0) := (hb1.cell (p := ⟨w.heap.size + 1, 0, none⟩) (by simp)).trans (by simp)
    have y1 : w1.cell? ⟨w.heap.size + 1, 1, none⟩ = some (.slice none 0 0) := (hb1.cell (p := ⟨w.heap.size + 1, 1, none⟩) (by simp)).trans (by simp)
    have y3 : ∀ o, w1.frozen? ⟨w.heap.size + 1, o, none⟩ = false := fun o => (hb1.frozen (p := ⟨w.heap.size + 1, o, none⟩) (by simp)).trans (by simp)
    clear hM hb1
    go_wp2_with fail
    refine bodyPost_ret (v := .tuple #[.agg #[.slice none 0 0, .slice none 0 0], .int .i64 c0]) (by simp [*, results, Tryd.results23, go_sem]) rfl ?_
    exact outP_err (by (repeat' (first | (with_reducible exact Below.refl _ _) | (with_reducible assumption) | (with_reducible refine Below.alloc ?_ ?_ _) | (with_reducible refine Below.drew ?_) | (with_reducible refine below_drewN ?_ _) | (with_reducible refine Below.setCell ?_ ?_ _) | (with_reducible refine Below.trans ?_ (Below.mono (by with_reducible assumption) ?_)) | (with_reducible exact Below.size (by with_reducible assumption)) | go_size)))
  obtain ⟨hp, hs0, hs1, hD, ho⟩ := pvOut_facts hc
  rw [ho] at hpv
  have HP := Lib.hid hpv
  have hn1 := (isPB_facts hp).1
  have hn5 := (isPB_facts hp).2.1
  have HW := Lib.hid (fun v q w h1 h2 => isWhole_any v q M.length (pvR M s) (pvS M Q s) (pvD M s) w h1 h2 hn1 hn5 hD (fun i k => pvR_bd hp s i k) (fun k => pvS_bd hp s k))
  have HI := Lib.hid (And.intro (tabP_I64 hp s) (sideP_I64 hp s))
  have hDB : -9223372036854775808 ≤ pvD M s ∧ pvD M s ≤ 9223372036854775807 := by have := sgD_bd (dt M.length (colS M s)) (pv_dtD hp s); unfold Bd at this; unfold pvD; omega
  have HQ := Lib.hid (fun (v : Value) (g : Nat → Int) (w' : World) (hb : ∀ k, Bd 1920000000 (g k)) (h : Ints w' v ((List.range M.length).map g)) => (quotients_any v ((List.range M.length).map g) (pvD M s) w' h.lst (by rw [row_length]; omega) (fun k hk => by rw [row_length] at hk; rw [row_getD _ _ _ hk]; exact hb k) hD hDB).mono (R' := fun e w2 => ∃ b c, e = .returned (.slice (some ⟨b, 0, none⟩) M.length c) ∧ FreshI w'.heap.size w2 (.slice (some ⟨b, 0, none⟩) M.length c) ((List.range M.length).map fun k => (g k).tdiv (pvD M s)) ∧ Below w'.heap.size w' w2) (by
    rintro e w2 ⟨b, c, rfl, hF, hB⟩
    rw [row_length, List.map_map] at hF
    rw [row_length]
    exact ⟨b, c, rfl, hF, hB⟩))
  have HBR := Lib.hid (fun i k => pvR_bd hp s i k)
  have HBS := Lib.hid (fun k => pvS_bd hp s k)
  have HE2 := Lib.hid (fun h2 => ppOut_e2 (M := M) (Q := Q) (s := s) hc h2)
  have HE3 := Lib.hid (fun h2 h3 => ppOut_e3 (M := M) (Q := Q) (s := s) hc h2 h3)
  have HOK := Lib.hid (fun h2 h3 => ppOut_ok (M := M) (Q := Q) (s := s) hc h2 h3)
  obtain ⟨o, hoo⟩ : ∃ o, o = ppOut M Q s := ⟨_, rfl⟩
  rw [← hoo] at HE2 HE3 HOK ⊢
  have hR' : ppR M s = fun i k => (pvR M s i k).tdiv (pvD M s) := rfl
  have hS' : ppS M Q s = fun i => (pvS M Q s i).tdiv (pvD M s) := rfl
  rw [hR', hS'] at HE3 HOK
  clear hc hp hs0 hs1 ho hpv hD hDB hoo hR' hS'
  generalize whB M.length (pvR M s) (pvS M Q s) (pvD M s) = B at *
  generalize pvD M s = D at *
  generalize pvR M s = f at *
  generalize pvS M Q s = g at *
  obtain ⟨n, hn⟩ : ∃ n, n = M.length := ⟨_, rfl⟩
  go_enter Tryd.func23, Tryd.ntmps23
  go_wp2_with fail
  refine (HP.out _ (by (repeat' (first | (with_reducible exact Below.refl _ _) | (with_reducible assumption) | (with_reducible refine Below.alloc ?_ ?_ _) | (with_reducible refine Below.drew ?_) | (with_reducible refine below_drewN ?_ _) | (with_reducible refine Below.setCell ?_ ?_ _) | (with_reducible refine Below.trans ?_ (Below.mono (by with_reducible assumption) ?_)) | (with_reducible exact Below.size (by with_reducible assumption)) | go_size)))).mono ?_; rintro e w1 ⟨a, c, a', c', us, rfl, hM, hb1⟩
  dsimp only at hM ⊢
  rw [tab_length, row_length] at hM ⊢
  rw [← hn] at HW HI HQ HE3 HOK hM hn1 hn5 ⊢
  have hw1 : Below w.heap.size w w1 := by (repeat' (first | (with_reducible exact Below.refl _ _) | (with_reducible assumption) | (with_reducible refine Below.alloc ?_ ?_ _) | (with_reducible refine Below.drew ?_) | (with_reducible refine below_drewN ?_ _) | (with_reducible refine Below.setCell ?_ ?_ _) | (with_reducible refine Below.trans ?_ (Below.mono (by with_reducible assumption) ?_)) | (with_reducible exact Below.size (by with_reducible assumption)) | go_size))
  have hl : w.heap.size + 1 < w1.heap.size := by have := hb1.size; simp at this; omega
  have y0 : w1.cell? ⟨w.heap.size + 1, 0, none⟩ = some (.slice none 0 0) := (hb1.cell (p := ⟨w.heap.size + 1, 0, none⟩) (by simp)).trans (by simp)
  have y1 : w1.cell? ⟨w.heap.size + 1, 1, none⟩ = some (.slice none 0 0) := (hb1.cell (p := ⟨w.heap.size + 1, 1, none⟩) (by simp)).trans (by simp)
  have y3 : ∀ o, w1.frozen? ⟨w.heap.size + 1, o, none⟩ = false := fun o => (hb1.frozen (p := ⟨w.heap.size + 1, o, none⟩) (by simp)).trans (by simp)
  have hR := hM.rows.rows.rows' HI.out.1
  have hS := hM.side.ints HI.out.2
  obtain ⟨W1, hW1⟩ : ∃ W1, W1 = w1.alloc (.cells #[.int .i64 D, .slice a n c, .slice a' n c'] 28) := ⟨_, rfl⟩
  have hal : Below w1.heap.size w1 W1 := by rw [hW1]; exact (Below.refl _ _).alloc (Nat.le_refl _) _
  have x0 : W1.cell? ⟨w1.heap.size, 0, none⟩ = some (.int .i64 D) := by rw [hW1]; simp
  have x1 : W1.cell? ⟨w1.heap.size, 1, none⟩ = some (.slice a n c) := by rw [hW1]; simp
  have x2 : W1.cell? ⟨w1.heap.size, 2, none⟩ = some (.slice a' n c') := by rw [hW1]; simp
  have hz1 : W1.heap.size = w1.heap.size + 1 := by rw [hW1]; simp
  have HWW := Lib.hid (HW.out _ _ _ (hR.below hal) (hS.below hal))
  have HRR := Lib.hid (hR.below hal)
  have HSS := Lib.hid (hS.below hal)
  have k0 := (hal.cell (p := ⟨w.heap.size + 1, 0, none⟩) hl).trans y0
  have k1 := (hal.cell (p := ⟨w.heap.size + 1, 1, none⟩) hl).trans y1
  have k3 := fun o => (hal.frozen (p := ⟨w.heap.size + 1, o, none⟩) hl).trans (y3 o)
  have hW : Below w.heap.size w W1 := hw1.trans (hal.mono hw1.size)
  clear hM hR hS hal hb1 hw1 y0 y1 y3 HP HW hn
  go_wp2_with fail
  rw [← hW1]
  refine HWW.out.mono ?_; rintro e w2 ⟨rfl, hb2⟩
  have hW2 : Below w.heap.size w w2 := hW.trans (hb2.mono hW.size)
  have hl2 : w.heap.size + 1 < w2.heap.size := by have := hb2.size; omega
  have hP2 : w1.heap.size < w2.heap.size := by have := hb2.size; omega
  have e0 := (hb2.cell (p := ⟨w1.heap.size, 0, none⟩) (by show w1.heap.size < _; omega)).trans x0
  have e1 := (hb2.cell (p := ⟨w1.heap.size, 1, none⟩) (by show w1.heap.size < _; omega)).trans x1
  have e2 := (hb2.cell (p := ⟨w1.heap.size, 2, none⟩) (by show w1.heap.size < _; omega)).trans x2
  have l0 := (hb2.cell (p := ⟨w.heap.size + 1, 0, none⟩) (by show w.heap.size + 1 < _; omega)).trans k0
  have l1 := (hb2.cell (p := ⟨w.heap.size + 1, 1, none⟩) (by show w.heap.size + 1 < _; omega)).trans k1
  have l3 := fun o => (hb2.frozen (p := ⟨w.heap.size + 1, o, none⟩) (by show w.heap.size + 1 < _; omega)).trans (k3 o)
  have HR2 := Lib.hid (HRR.out.below hb2)
  have HS2 := Lib.hid (HSS.out.below hb2)
  clear hb2 x0 x1 x2 k0 k1 k3 HRR HSS HWW hW hW1 hz1
  cases B
  case false =>
    go_wp2_with fail
    refine bodyPost_ret (v := .tuple #[.agg #[.slice none 0 0, .slice none 0 0], .int .i64 5]) (by simp [*, results, Tryd.results23, go_sem]) rfl ?_
    rw [HE2.out trivial]
    exact outP_err ((hW2.setCell (p := ⟨w.heap.size + 1, 0, none⟩) (by show w.heap.size ≤ w.heap.size + 1; omega) _).setCell (p := ⟨w.heap.size + 1, 1, none⟩) (by show w.heap.size ≤ w.heap.size + 1; omega) _)
  have HE3 := Lib.hid (HE3.out rfl)
  have HOK := Lib.hid (HOK.out rfl)
  go_wp2_with fail
  refine (HQ.out _ _ _ HBS.out HS2.out).mono ?_; rintro e w3 ⟨g3, c3, rfl, hF3, hb3⟩
  have l02 := l0
  have l12 := l1
  have l32 := l3
  have e02 := e0
  have e12 := e1
  have e0 := (hb3.cell (p := ⟨w1.heap.size, 0, none⟩) (by show w1.heap.size < _; omega)).trans e0
  have e1 := (hb3.cell (p := ⟨w1.heap.size, 1, none⟩) (by show w1.heap.size < _; omega)).trans e1
  have l0 := (hb3.cell (p := ⟨w.heap.size + 1, 0, none⟩) (by show w.heap.size + 1 < _; omega)).trans l0
  have l1 := (hb3.cell (p := ⟨w.heap.size + 1, 1, none⟩) (by show w.heap.size + 1 < _; omega)).trans l1
  have l3 := fun o => (hb3.frozen (p := ⟨w.heap.size + 1, o, none⟩) (by show w.heap.size + 1 < _; omega)).trans (l3 o)
  obtain ⟨bR, oR, cR, hv, hbR, hcell⟩ := rowsI_at HR2.out hn1
  simp only [Value.slice.injEq] at hv
  obtain ⟨rfl, _, rfl⟩ := hv
  have HCE := Lib.hid hcell
  have HF3 := Lib.hid hF3
  have hz3 := hb3.size
  have hP3 : w1.heap.size < w3.heap.size := by omega
  obtain ⟨S', hS'⟩ : ∃ S', S' = (List.range n).map fun k => (g k).tdiv D := ⟨_, rfl⟩
  rw [← hS'] at HF3 HE3 HOK
  have hSl : S'.length = n := by rw [hS']; simp
  obtain ⟨f', hf'⟩ : ∃ f', f' = fun i k => (f i k).tdiv D := ⟨_, rfl⟩
  rw [← hf'] at HE3 HOK
  have HQR := Lib.hid (fun (v : Value) (i : Nat) (w' : World) (h : Ints w' v ((List.range n).map (f i))) => show Calls _ _ _ _ (fun e w2 => ∃ b c, e = .returned (.slice (some ⟨b, 0, none⟩) n c) ∧ FreshI w'.heap.size w2 (.slice (some ⟨b, 0, none⟩) n c) ((List.range n).map (f' i)) ∧ Below w'.heap.size w' w2) by rw [hf']; exact HQ.out v (f i) w' (HBR.out i) h)
  have HFI := Lib.hid (And.intro (tab_I64 (n := n) (g := f') (B := 1920000000) (by decide) (fun i j _ _ => by rw [hf']; exact tdiv_bd (HBR.out i j))) (show ∀ x ∈ S', I64 x by
    intro x hx
    rw [hS'] at hx
    simp only [List.mem_map] at hx
    obtain ⟨j, _, rfl⟩ := hx
    have := tdiv_bd (d := D) (HBS.out j)
    unfold Bd at this
    show -9223372036854775808 ≤ _ ∧ _ ≤ 9223372036854775807
    omega))
  clear hF3 hcell e2 HS2 HQ HBR HBS hf' hS'
  go_wp2_with fail
  obtain ⟨W4, hW4⟩ : ∃ W4, W4 = w3.alloc (.cells #[.slice none 0 0, .slice (some ⟨g3, 0, none⟩) n c3] 31) := ⟨_, rfl⟩
  have hal4 : Below w3.heap.size w3 W4 := by rw [hW4]; exact (Below.refl _ _).alloc (Nat.le_refl _) _
  have hPg : PgG w2.heap.size W4 w3.heap.size (.slice none 0 0) (.slice (some ⟨g3, 0, none⟩) n c3) (rK n f' 0) S' [] := by
    obtain ⟨gg, cc, hv, hq1, hq2, ho⟩ := HF3.out
    simp only [Value.slice.injEq, Option.some.injEq, Addr.mk.injEq, and_true] at hv
    obtain ⟨rfl, _, rfl⟩ := hv
    refine ⟨ownRs_nil _ _, ho.below hal4 (fun b hb => by simp [Value.ownBlock] at hb; omega), fun b hb => ?_, fun i b hi => absurd hi (by simp [rK]), by rw [hW4]; simp, by rw [hW4]; simp, fun o => by rw [hW4]; simp, by rw [hW4]; simp, by simp [Value.ownBlock], by simp [Value.ownBlock]; omega, fun i hi => absurd hi (by simp [rK]), hz3⟩
    have := hal4.size
    simp [Value.ownBlock] at hb
    omega
  have hB4 : Below w2.heap.size w2 W4 := hb3.trans (hal4.mono hz3)
  have e0 := (hal4.cell (p := ⟨w1.heap.size, 0, none⟩) (by show w1.heap.size < _; omega)).trans e0
  have e1 := (hal4.cell (p := ⟨w1.heap.size, 1, none⟩) (by show w1.heap.size < _; omega)).trans e1
  have HPG := Lib.hid hPg
  have HB4 := Lib.hid hB4
  have hz4 : w3.heap.size < W4.heap.size := by rw [hW4]; simp
  clear hPg hB4 hb3
  rw [← hW4]
  clear hW4 hal4
  obtain ⟨N, hN⟩ : ∃ N, N = w3.heap.size := ⟨_, rfl⟩
  obtain ⟨Pv, hPv⟩ : ∃ Pv, Pv = w1.heap.size := ⟨_, rfl⟩
  rw [← hN] at HPG hz4 hz3 ⊢
  rw [← hPv] at e0 e1 e02 e12 hP2 hP3 ⊢
  clear hN hPv
  go_loopw [10, 34] (fun _ i wr => ∃ (k : Nat) (v : Value) (us : List Value), k ≤ n ∧ i = .int .i64 k ∧ PgG w2.heap.size wr N v (.slice (some ⟨g3, 0, none⟩) n c3) (rK n f' k) S' us ∧ Below w2.heap.size w2 wr) (fun _ i _ => n - (intOf i).toNat)
  case atStart => exact ⟨0, _, _, Nat.zero_le _, by go_num, HPG.out, HB4.out⟩
  case round =>
    obtain ⟨k, v, vs, hk, rfl, hPg, hB⟩ := hrel
    have hzw := hB.size
    have q0 : wr.cell? ⟨Pv, 0, none⟩ = some (.int .i64 D) := (hB.cell (p := ⟨Pv, 0, none⟩) (by show Pv < _; omega)).trans e02
    have q1 : wr.cell? ⟨Pv, 1, none⟩ = some (.slice (some ⟨bR, oR, none⟩) n c) := (hB.cell (p := ⟨Pv, 1, none⟩) (by show Pv < _; omega)).trans e12
    by_cases hlt : k < n
    · obtain ⟨bi, oi, ci, d1, hbi, hInt, d2⟩ := HCE.out k hlt
      have d3 := (hB.cell (p := ⟨bR, oR + k, none⟩) hbR).trans d1
      have HIN := Lib.hid (hInt.below hB)
      have HPG := Lib.hid hPg
      have HB := Lib.hid hB
      obtain ⟨i0, hi', hzz0, hzz1, hzz2⟩ := info_parts info_ints
      clear hPg hB hInt d1 d2
      go_wp2_with fail
      obtain ⟨W, rfl⟩ : ∃ W, W = wr := ⟨_, rfl⟩
      have hPW : Pv < W.heap.size := by omega
      rename_i K0 hK0
      refine (wpIn_wide (n := 8)).1 ?_
      refine PR.wpIn_region_inv hmx (by kernel_rfl) (fun listed ac w' =>
          ∃ (b0 b1 b2 b3 b4 b5 b6 b7 b8 b9 : Bool) (cb : Nat) (v' : Value) (gq : Nat) (hb : Nat), ((b1 = true → b0 = true) ∧ (b4 = true → b3 = true) ∧ (b5 = true → b2 = true ∧ b4 = true) ∧ (b6 = true → b5 = true) ∧ (b7 = true → b1 = true ∧ b6 = true) ∧ (b9 = true → b7 = true ∧ b8 = true)) ∧ listed = #[b0, b1, b2, b3, b4, b5, b6, b7, b8, b9] ∧
            ac = { tmps := #[.agg #[.slice a1 n c1, .slice a2 Q.length c2], .int .i64 s, .pointer (some ⟨w.heap.size, 0, none⟩), undef, .pointer (some ⟨w.heap.size + 1, 0, none⟩), .int .i64 0, .pointer (some ⟨Pv, 0, none⟩), .int .i64 0, .pointer (some ⟨N, 0, none⟩), undef, .slice (some ⟨bi, oi, none⟩) n ci, .tuple #[.agg #[.int .i64 D, .slice (some ⟨bR, oR, none⟩) n c, .slice a' n c'], .int .i64 0], .agg #[.slice a1 n c1, .slice a2 Q.length c2], .int .i64 s, .tuple #[.agg #[.int .i64 D, .slice (some ⟨bR, oR, none⟩) n c, .slice a' n c'], .int .i64 0], .agg #[.int .i64 D, .slice (some ⟨bR, oR, none⟩) n c, .slice a' n c'], .int .i64 0, .int .i64 0, .bool false, undef, undef, .agg #[.int .i64 D, .slice (some ⟨bR, oR, none⟩) n c, .slice a' n c'], .bool true, .bool false, undef, .pointer (some ⟨Pv, 2, none⟩), .slice a' n c', .pointer (some ⟨Pv, 0, none⟩), .int .i64 D, .slice (some ⟨g3, 0, none⟩) n c3, .agg #[.slice none 0 0, .slice (some ⟨g3, 0, none⟩) n c3], .pointer (some ⟨Pv, 1, none⟩), .slice (some ⟨bR, oR, none⟩) n c, .int .i64 n, .int .i64 k, .bool true, .pointer (some ⟨bR, oR + k, none⟩), .slice (some ⟨bi, oi, none⟩) n ci, cond b0 (.pointer (some ⟨N, 0, none⟩)) (u38), cond b1 (v) (u39), cond b2 (.slice (some ⟨bi, oi, none⟩) n ci) (u40), cond b3 (.pointer (some ⟨Pv, 0, none⟩)) (u41), cond b4 (.int .i64 D) (u42), cond b5 (.slice (some ⟨gq, 0, none⟩) n cb) (u43), cond b6 (.slice (some ⟨hb, 0, none⟩) 1 1) (u44), cond b7 (v') (u45), cond b8 (.pointer (some ⟨N, 0, none⟩)) (u46), u47, undef, undef, undef, undef, undef], defers := [] } ∧ PpR w2 W w' w2.heap.size N n cb k v (.slice (some ⟨g3, 0, none⟩) n c3) (rK n f' k) S' ((List.range n).map (f' k)) vs v' gq hb b5 b6 b7 b9) ?_ ?_ ?_ ?_
      · rintro listed ac w' ⟨b0, b1, b2, b3, b4, b5, b6, b7, b8, b9, cb, v', gq, hb, _, rfl, _⟩
        rfl
      · rintro listed ac w' ⟨b0, b1, b2, b3, b4, b5, b6, b7, b8, b9, cb, v', gq, hb, _, rfl, rfl, hR⟩ hall
        have h0 := hall 0 (by simp)
        have h1 := hall 1 (by simp)
        have h2 := hall 2 (by simp)
        have h3 := hall 3 (by simp)
        have h4 := hall 4 (by simp)
        have h5 := hall 5 (by simp)
        have h6 := hall 6 (by simp)
        have h7 := hall 7 (by simp)
        have h8 := hall 8 (by simp)
        have h9 := hall 9 (by simp)
        simp at h0 h1 h2 h3 h4 h5 h6 h7 h8 h9
        subst h0 h1 h2 h3 h4 h5 h6 h7 h8 h9
        clear hall
        refine hK0 _ _ ?_
        simp only [cond_true]
        obtain ⟨hfin, hlow⟩ := hR.fin rfl
        rw [← rK_succ] at hfin
        have HF := Lib.hid hfin
        have HL := Lib.hid hlow
        clear hR hfin hlow
        go_wp2_with fail
        go_roundw
        case rel => exact ⟨k + 1, _, _, by omega, by go_num, HF.out, HL.out⟩
        case measure => simp [intOf]; omega
      · exact ⟨false, false, false, false, false, false, false, false, false, false, 0, undef, 0, 0, by simp, rfl, rfl, ⟨fun _ => (Below.refl _ _).drew, fun e => (by cases e), fun e => (by cases e), fun e => (by cases e), fun e => (by cases e)⟩⟩
      · rintro listed ac w' i oi ⟨b0, b1, b2, b3, b4, b5, b6, b7, b8, b9, cb, v', gq, hb, ⟨e1, e4, e5, e6, e7, e9⟩, rfl, rfl, hR⟩ ho hun hdep
        have hi : i < 10 := by simpa using (Array.getElem?_eq_some_iff.1 ho).1
        obtain rfl | rfl | rfl | rfl | rfl | rfl | rfl | rfl | rfl | rfl : i = 0 ∨ i = 1 ∨ i = 2 ∨ i = 3 ∨ i = 4 ∨ i = 5 ∨ i = 6 ∨ i = 7 ∨ i = 8 ∨ i = 9 := by omega
        · -- 0
          simp only [List.getElem?_toArray, List.getElem?_cons_zero, Option.some.injEq] at ho
          subst ho
          have hbi : b0 = false := by simpa using hun
          subst hbi
          obtain rfl : b1 = false := Bool.eq_false_iff.2 (fun h => Bool.noConfusion (e1 h))
          obtain rfl : b7 = false := Bool.eq_false_iff.2 (fun h => Bool.noConfusion (e7 h).1)
          obtain rfl : b9 = false := Bool.eq_false_iff.2 (fun h => Bool.noConfusion (e9 h).1)
          refine wpOpIn_step rfl (fun K hK => ?_)
          clear hun hdep hi
          go_simp
          refine hK _ _ ⟨true, false, b2, b3, b4, b5, b6, false, b8, false, cb, v', gq, hb, ⟨fun h => Bool.noConfusion h, e4, e5, e6, fun h => Bool.noConfusion h, fun h => Bool.noConfusion h⟩, rfl, rfl, hR⟩
        · -- 1
          simp only [List.getElem?_toArray, List.getElem?_cons_succ, List.getElem?_cons_zero, Option.some.injEq] at ho
          subst ho
          have hbi : b1 = false := by simpa using hun
          subst hbi
          have hd0 : b0 = true := by have := hdep ⟨0, .data⟩ (by simp) rfl; simpa using this
          subst hd0
          obtain rfl : b7 = false := Bool.eq_false_iff.2 (fun h => Bool.noConfusion (e7 h).1)
          obtain rfl : b9 = false := Bool.eq_false_iff.2 (fun h => Bool.noConfusion (e9 h).1)
          refine wpOpIn_step rfl (fun K hK => ?_)
          clear hun hdep hi
          have t0 := ((hR.low rfl).cell (p := ⟨N, 0, none⟩) HPG.out.lt).trans HPG.out.c1
          go_simp
          refine hK _ _ ⟨true, true, b2, b3, b4, b5, b6, false, b8, false, cb, v', gq, hb, ⟨fun _ => rfl, e4, e5, e6, fun h => Bool.noConfusion h, fun h => Bool.noConfusion h⟩, rfl, rfl, hR⟩
        · -- 2
          simp only [List.getElem?_toArray, List.getElem?_cons_succ, List.getElem?_cons_zero, Option.some.injEq] at ho
          subst ho
          have hbi : b2 = false := by simpa using hun
          subst hbi
          obtain rfl : b5 = false := Bool.eq_false_iff.2 (fun h => Bool.noConfusion (e5 h).1)
          obtain rfl : b6 = false := Bool.eq_false_iff.2 (fun h => Bool.noConfusion (e6 h))
          obtain rfl : b7 = false := Bool.eq_false_iff.2 (fun h => Bool.noConfusion (e7 h).2)
          obtain rfl : b9 = false := Bool.eq_false_iff.2 (fun h => Bool.noConfusion (e9 h).1)
          refine wpOpIn_step rfl (fun K hK => ?_)
          clear hun hdep hi
          go_simp
          refine hK _ _ ⟨b0, b1, true, b3, b4, false, false, false, b8, false, cb, v', gq, hb, ⟨e1, e4, fun h => Bool.noConfusion h, fun h => Bool.noConfusion h, fun h => Bool.noConfusion h, fun h => Bool.noConfusion h⟩, rfl, rfl, hR⟩
        · -- 3
          simp only [List.getElem?_toArray, List.getElem?_cons_succ, List.getElem?_cons_zero, Option.some.injEq] at ho
          subst ho
          have hbi : b3 = false := by simpa using hun
          subst hbi
          obtain rfl : b4 = false := Bool.eq_false_iff.2 (fun h => Bool.noConfusion (e4 h))
          obtain rfl : b5 = false := Bool.eq_false_iff.2 (fun h => Bool.noConfusion (e5 h).2)
          obtain rfl : b6 = false := Bool.eq_false_iff.2 (fun h => Bool.noConfusion (e6 h))
          obtain rfl : b7 = false := Bool.eq_false_iff.2 (fun h => Bool.noConfusion (e7 h).2)
          obtain rfl : b9 = false := Bool.eq_false_iff.2 (fun h => Bool.noConfusion (e9 h).1)
          refine wpOpIn_step rfl (fun K hK => ?_)
          clear hun hdep hi
          go_simp
          refine hK _ _ ⟨b0, b1, b2, true, false, false, false, false, b8, false, cb, v', gq, hb, ⟨e1, fun h => Bool.noConfusion h, fun h => Bool.noConfusion h, fun h => Bool.noConfusion h, fun h => Bool.noConfusion h, fun h => Bool.noConfusion h⟩, rfl, rfl, hR⟩
        · -- 4
          simp only [List.getElem?_toArray, List.getElem?_cons_succ, List.getElem?_cons_zero, Option.some.injEq] at ho
          subst ho
          have hbi : b4 = false := by simpa using hun
          subst hbi
          have hd3 : b3 = true := by have := hdep ⟨3, .data⟩ (by simp) rfl; simpa using this
          subst hd3
          obtain rfl : b5 = false := Bool.eq_false_iff.2 (fun h => Bool.noConfusion (e5 h).2)
          obtain rfl : b6 = false := Bool.eq_false_iff.2 (fun h => Bool.noConfusion (e6 h))
          obtain rfl : b7 = false := Bool.eq_false_iff.2 (fun h => Bool.noConfusion (e7 h).2)
          obtain rfl : b9 = false := Bool.eq_false_iff.2 (fun h => Bool.noConfusion (e9 h).1)
          refine wpOpIn_step rfl (fun K hK => ?_)
          clear hun hdep hi
          have t0 := ((hR.low rfl).cell (p := ⟨Pv, 0, none⟩) hPW).trans q0
          go_simp
          refine hK _ _ ⟨b0, b1, b2, true, true, false, false, false, b8, false, cb, v', gq, hb, ⟨e1, fun _ => rfl, fun h => Bool.noConfusion h, fun h => Bool.noConfusion h, fun h => Bool.noConfusion h, fun h => Bool.noConfusion h⟩, rfl, rfl, hR⟩
        · -- 5
          simp only [List.getElem?_toArray, List.getElem?_cons_succ, List.getElem?_cons_zero, Option.some.injEq] at ho
          subst ho
          have hbi : b5 = false := by simpa using hun
          subst hbi
          have hd2 : b2 = true := by have := hdep ⟨2, .data⟩ (by simp) rfl; simpa using this
          have hd4 : b4 = true := by have := hdep ⟨4, .data⟩ (by simp) rfl; simpa using this
          have hd3 : b3 = true := (e4 hd4)
          subst hd2 hd3 hd4
          obtain rfl : b6 = false := Bool.eq_false_iff.2 (fun h => Bool.noConfusion (e6 h))
          obtain rfl : b7 = false := Bool.eq_false_iff.2 (fun h => Bool.noConfusion (e7 h).2)
          obtain rfl : b9 = false := Bool.eq_false_iff.2 (fun h => Bool.noConfusion (e9 h).1)
          refine wpOpIn_step rfl (fun K hK => ?_)
          clear hun hdep hi
          go_simp
          refine ⟨trivial, (callsIn_wide.2 (HQR.out _ k w' (HIN.out.below (hR.low rfl)))).mono ?_⟩
          rintro e w'' ⟨yb, yc, rfl, hF, hb'⟩
          refine hK _ _ ⟨b0, b1, true, true, true, true, false, false, b8, false, yc, v', yb, hb, ⟨e1, fun _ => rfl, fun _ => ⟨rfl, rfl⟩, fun h => Bool.noConfusion h, fun h => Bool.noConfusion h, fun h => Bool.noConfusion h⟩, rfl, rfl, hR.call hF hb'⟩
        · -- 6
          simp only [List.getElem?_toArray, List.getElem?_cons_succ, List.getElem?_cons_zero, Option.some.injEq] at ho
          subst ho
          have hbi : b6 = false := by simpa using hun
          subst hbi
          have hd5 : b5 = true := by have := hdep ⟨5, .data⟩ (by simp) rfl; simpa using this
          have hd4 : b4 = true := (e5 hd5).2
          have hd3 : b3 = true := (e4 hd4)
          have hd2 : b2 = true := (e5 hd5).1
          subst hd2 hd3 hd4 hd5
          obtain rfl : b7 = false := Bool.eq_false_iff.2 (fun h => Bool.noConfusion (e7 h).2)
          obtain rfl : b9 = false := Bool.eq_false_iff.2 (fun h => Bool.noConfusion (e9 h).1)
          refine wpOpIn_step rfl (fun K hK => ?_)
          clear hun hdep hi
          go_simp
          refine hK _ _ ⟨b0, b1, true, true, true, true, true, false, b8, false, cb, v', gq, w'.heap.size, ⟨e1, fun _ => rfl, fun _ => ⟨rfl, rfl⟩, fun _ => rfl, fun h => Bool.noConfusion h, fun h => Bool.noConfusion h⟩, rfl, rfl, hR.box_⟩
        · -- 7
          simp only [List.getElem?_toArray, List.getElem?_cons_succ, List.getElem?_cons_zero, Option.some.injEq] at ho
          subst ho
          have hbi : b7 = false := by simpa using hun
          subst hbi
          have hd1 : b1 = true := by have := hdep ⟨1, .data⟩ (by simp) rfl; simpa using this
          have hd6 : b6 = true := by have := hdep ⟨6, .data⟩ (by simp) rfl; simpa using this
          have hd5 : b5 = true := (e6 hd6)
          have hd4 : b4 = true := (e5 hd5).2
          have hd3 : b3 = true := (e4 hd4)
          have hd2 : b2 = true := (e5 hd5).1
          have hd0 : b0 = true := (e1 hd1)
          subst hd0 hd1 hd2 hd3 hd4 hd5 hd6
          obtain rfl : b9 = false := Bool.eq_false_iff.2 (fun h => Bool.noConfusion (e9 h).1)
          refine wpOpIn_step rfl (fun K hK => ?_)
          clear hun hdep hi
          refine PR.stepIn_append_lies _ rfl _ _ 22 rfl 0 23 i0 (.slice none 0 0) 1 24 Tryd.underlying22 hi' hzz0 hzz1 hzz2 rfl (by decide) v k vs rfl (HPG.out.ownV (hR.low rfl) (rK_length n f' k)) ⟨hb, 0, none⟩ 1 1 [.slice (some ⟨gq, 0, none⟩) n cb] rfl rfl (news_one (hR.box rfl rfl)) (by simp [Value.oneCell']) (by decide) (by unfold maxLen; omega) (by omega) (Nat.zero_le _) ?_
          intro g2 cap w'' hown hgrow hat hgl
          refine hK _ _ ⟨true, true, true, true, true, true, true, true, b8, false, cb, (.slice (some ⟨g2, 0, none⟩) (k + 1) cap), gq, hb, ⟨fun _ => rfl, fun _ => rfl, fun _ => ⟨rfl, rfl⟩, fun _ => rfl, fun _ => ⟨rfl, rfl⟩, fun h => Bool.noConfusion h⟩, rfl, rfl, hR.app_ hown hgrow hat⟩
        · -- 8
          simp only [List.getElem?_toArray, List.getElem?_cons_succ, List.getElem?_cons_zero, Option.some.injEq] at ho
          subst ho
          have hbi : b8 = false := by simpa using hun
          subst hbi
          obtain rfl : b9 = false := Bool.eq_false_iff.2 (fun h => Bool.noConfusion (e9 h).2)
          refine wpOpIn_step rfl (fun K hK => ?_)
          clear hun hdep hi
          go_simp
          refine hK _ _ ⟨b0, b1, b2, b3, b4, b5, b6, b7, true, false, cb, v', gq, hb, ⟨e1, e4, e5, e6, e7, fun h => Bool.noConfusion h⟩, rfl, rfl, hR⟩
        · -- 9
          simp only [List.getElem?_toArray, List.getElem?_cons_succ, List.getElem?_cons_zero, Option.some.injEq] at ho
          subst ho
          have hbi : b9 = false := by simpa using hun
          subst hbi
          have hd7 : b7 = true := by have := hdep ⟨7, .data⟩ (by simp) rfl; simpa using this
          have hd8 : b8 = true := by have := hdep ⟨8, .data⟩ (by simp) rfl; simpa using this
          have hd6 : b6 = true := (e7 hd7).2
          have hd5 : b5 = true := (e6 hd6)
          have hd4 : b4 = true := (e5 hd5).2
          have hd3 : b3 = true := (e4 hd4)
          have hd2 : b2 = true := (e5 hd5).1
          have hd1 : b1 = true := (e7 hd7).1
          have hd0 : b0 = true := (e1 hd1)
          subst hd0 hd1 hd2 hd3 hd4 hd5 hd6 hd7 hd8
          refine wpOpIn_step rfl (fun K hK => ?_)
          clear hun hdep hi
          obtain ⟨w3', g2, cap, rfl, hl3', _, _, hgr, _⟩ := hR.app rfl rfl
          obtain ⟨f1', f2', f3'⟩ := HPG.out.far hl3' hgr HPG.out.vN
          have t0 := (f2' 0).trans HPG.out.c1
          have t1 := f3' 0
          clear f1' f2' f3' hl3' hgr
          go_simp
          refine hK _ _ ⟨true, true, true, true, true, true, true, true, true, true, cb, (.slice (some ⟨g2, 0, none⟩) (k + 1) cap), gq, hb, ⟨fun _ => rfl, fun _ => rfl, fun _ => ⟨rfl, rfl⟩, fun _ => rfl, fun _ => ⟨rfl, rfl⟩, fun _ => ⟨rfl, rfl⟩⟩, rfl, rfl, hR.store_ HPG.out (rK_length n f' k) HB.out⟩
    · obtain rfl : k = n := by omega
      have hM := hPg.ownP
      rw [rK_all] at hM
      obtain ⟨gv, cv, rfl⟩ : ∃ g c, v = .slice (some ⟨g, 0, none⟩) k c := by
        have hl' := tab_length k f'
        rcases hM.rows.rows.top.2 with ⟨hv, hn⟩ | ⟨g, cap, cur, hv, _⟩
        · omega
        · exact ⟨g, cap, by rw [hv, hl']⟩
      have t0 := hPg.c1
      have t1 := hPg.c2
      have htN := hPg.lt
      have hRw := hM.rows.rows.rows' HFI.out.1
      have hIw := hM.side.ints HFI.out.2
      have r0 := (hB.cell (p := ⟨w.heap.size + 1, 0, none⟩) (by show w.heap.size + 1 < _; omega)).trans l02
      have r1 := (hB.cell (p := ⟨w.heap.size + 1, 1, none⟩) (by show w.heap.size + 1 < _; omega)).trans l12
      have r3 := fun o => (hB.frozen (p := ⟨w.heap.size + 1, o, none⟩) (by show w.heap.size + 1 < _; omega)).trans (l32 o)
      have hwr : Below w.heap.size w wr := hW2.trans (hB.mono (by omega))
      have hlr : w.heap.size + 1 < wr.heap.size := by omega
      have HM := Lib.hid hM
      have HIP := Lib.hid (implIsProblem_any _ _ (tab k f') S' wr hRw hIw)
      clear hPg hM hRw hIw hB q0 q1
      go_wp2_with fail
      refine HIP.out.mono ?_; rintro e w5 ⟨rfl, hb5⟩
      have s0 := (hb5.cell (p := ⟨w.heap.size + 1, 0, none⟩) hlr).trans r0
      have s1 := (hb5.cell (p := ⟨w.heap.size + 1, 1, none⟩) hlr).trans r1
      have s3 := fun o => (hb5.frozen (p := ⟨w.heap.size + 1, o, none⟩) hlr).trans (r3 o)
      have u0 := (hb5.cell (p := ⟨N, 0, none⟩) htN).trans t0
      have u1 := (hb5.cell (p := ⟨N, 1, none⟩) htN).trans t1
      have hw5 : Below w.heap.size w w5 := hwr.trans (hb5.mono hwr.size)
      have HM5 := Lib.hid (HM.out.below hb5)
      clear hb5 r0 r1 r3 t0 t1 HM HIP
      cases hpb : isPB (tab k f') S'
      · have HO := Lib.hid (HE3.out trivial hpb)
        clear hpb
        go_wp2_with fail
        refine bodyPost_ret (v := .tuple #[.agg #[.slice none 0 0, .slice none 0 0], .int .i64 3]) (by simp [*, results, Tryd.results23, go_sem]) rfl ?_
        rw [HO.out]
        exact outP_err ((hw5.setCell (p := ⟨w.heap.size + 1, 0, none⟩) (by show w.heap.size ≤ w.heap.size + 1; omega) _).setCell (p := ⟨w.heap.size + 1, 1, none⟩) (by show w.heap.size ≤ w.heap.size + 1; omega) _)
      · have HO := Lib.hid (HOK.out trivial hpb)
        clear hpb
        go_wp2_with fail
        refine bodyPost_ret (v := .tuple #[.agg #[.slice (some ⟨gv, 0, none⟩) k cv, .slice (some ⟨g3, 0, none⟩) k c3], .int .i64 0]) (by simp [*, results, Tryd.results23, go_sem]) rfl ?_
        rw [HO.out]
        have ht : Tch [w.heap.size + 1] w5 ((w5.setCell ⟨w.heap.size + 1, 0, none⟩ (.slice (some ⟨gv, 0, none⟩) k cv)).setCell ⟨w.heap.size + 1, 1, none⟩ (.slice (some ⟨g3, 0, none⟩) k c3)) := ((Tch.refl _ _).setCell (by simp) _).setCell (by simp) _
        exact ⟨_, _, vs, rfl, ((HM5.out.old ht (fun b hb => by simp at hb; omega)).mono (by omega)).ownP, hw5.trans (ht.below (fun b hb => by simp at hb; omega))⟩
end Go.Proofs.YthnefjllijoobaaDoor.PW
