/-
  Walks: rows of numbers, each told by a function value, in the program.
-/
import Derived.Test.YtillndnamechdaaQTab
import Derived.Deep.RegionWith
namespace Go.Proofs.Ytillndnamechdaa.PW
open Go.RowKit Go.Proofs.Ytillndnamechdaa
open Go.Proofs.Ytillndnamechdaa.PM Go.Proofs.Ytillndnamechdaa.PX

/-- The first i rows are told, and the first k numbers of the row i. -/
def sqTo (n : Nat) (g : Nat → Nat → Int) (i k : Nat) : List (List Int) := (List.range n).map fun a => if a < i then (List.range n).map (g a) else if a = i then (List.range n).map (fun b => if b < k then g a b else 0) else []
def outTo (n : Nat) (g : Nat → Nat → Int) (i : Nat) : List (List Int) := (List.range n).map fun a => if a < i then (List.range n).map (g a) else []
theorem outTo_zero (n : Nat) (g : Nat → Nat → Int) : outTo n g 0 = List.replicate n [] := by
  apply List.ext_getElem
  · simp [outTo]
  · intro i h1 h2
    simp [outTo, List.getElem_replicate]
theorem outTo_all (n : Nat) (g : Nat → Nat → Int) : outTo n g n = tab n g := by
  unfold outTo tab
  apply List.map_congr_left
  intro i hi
  rw [if_pos (by simpa using hi)]
theorem outTo_length (n : Nat) (g : Nat → Nat → Int) (i : Nat) : (outTo n g i).length = n := by simp [outTo]
theorem sqTo_length (n : Nat) (g : Nat → Nat → Int) (i k : Nat) : (sqTo n g i k).length = n := by simp [sqTo]
theorem sqTo_row (n : Nat) (g : Nat → Nat → Int) (i k : Nat) (h : i < n) : (sqTo n g i k).getD i [] = (List.range n).map (fun b => if b < k then g i b else 0) := by simp [sqTo, h]
theorem sqTo_start (n : Nat) (g : Nat → Nat → Int) (i : Nat) : (outTo n g i).set i (List.replicate n 0) = sqTo n g i 0 := by
  apply List.ext_getElem
  · simp [outTo, sqTo]
  · intro j h1 h2
    rw [List.getElem_set]
    simp only [outTo, sqTo, List.getElem_map, List.getElem_range]
    by_cases e : i = j
    · subst e
      rw [if_pos rfl, if_neg (by omega), if_pos rfl]
      apply List.ext_getElem
      · simp
      · intro k h3 h4; simp [List.getElem_replicate]
    · rw [if_neg e]
      by_cases hl : j < i
      · rw [if_pos hl, if_pos hl]
      · rw [if_neg hl, if_neg hl, if_neg (fun c => e c.symm)]
theorem sqTo_step (n : Nat) (g : Nat → Nat → Int) (i k : Nat) (h : i < n) : (sqTo n g i k).set i (((sqTo n g i k).getD i []).set k (g i k)) = sqTo n g i (k + 1) := by
  rw [sqTo_row _ _ _ _ h, row_set]
  apply List.ext_getElem
  · simp [sqTo]
  · intro j h1 h2
    rw [List.getElem_set]
    simp only [sqTo, List.getElem_map, List.getElem_range]
    by_cases e : i = j
    · subst e
      rw [if_pos rfl, if_neg (by omega), if_pos rfl]
      apply List.map_congr_left
      intro b _
      by_cases e2 : b = k
      · subst e2; rw [if_pos rfl, if_pos (by omega)]
      · rw [if_neg e2]
        by_cases e3 : b < k
        · rw [if_pos e3, if_pos (by omega)]
        · rw [if_neg e3, if_neg (by omega)]
    · rw [if_neg e]
      by_cases hl : j < i
      · rw [if_pos hl, if_pos hl]
      · rw [if_neg hl, if_neg hl, if_neg (fun c => e c.symm), if_neg (fun c => e c.symm)]
theorem sqTo_all (n : Nat) (g : Nat → Nat → Int) (i : Nat) : sqTo n g i n = outTo n g (i + 1) := by
  unfold sqTo outTo
  apply List.map_congr_left
  intro a _
  by_cases hl : a < i
  · rw [if_pos hl, if_pos (by omega)]
  · rw [if_neg hl]
    by_cases e : a = i
    · subst e
      rw [if_pos rfl, if_pos (by omega)]
      apply List.map_congr_left
      intro b hb
      rw [if_pos (by simpa using hb)]
    · rw [if_neg e, if_neg (by omega)]

/-- What a function value gives that tells the number at i, k. -/
def TellsAt (G Bc n : Nat) (g : Nat → Nat → Int) (w : World) : Prop :=
  ∀ (w' : World) (i k : Nat), Below w.heap.size w w' → i < n → k < n → Calls Try.prog G #[.int .i64 i, .int .i64 k, .pointer (some ⟨Bc, 0, none⟩)] w' fun e w'' => e = .returned (.int .i64 (g i k)) ∧ Below w'.heap.size w' w''

structure Sq (w wr : World) (n : Nat) (xss : List (List Int)) (us : List Value) : Prop where
  rows : FreshR w.heap.size wr (.slice (some ⟨w.heap.size, 0, none⟩) n n) xss us
  below : Below w.heap.size w wr
theorem Sq.next {w wr w2 : World} {n : Nat} {xss : List (List Int)} {us : List Value} (h : Sq w wr n xss us) (hb : Below wr.heap.size wr w2) : Sq w w2 n xss us := ⟨h.rows.below hb, h.below.trans (hb.mono h.below.size)⟩
theorem Sq.row {w wr : World} {n i : Nat} {g : Nat → Nat → Int} {us : List Value} (h : Sq w wr n (outTo n g i) us) (hi : i < n) (hn : n ≤ maxLen) :
    Sq w ((wr.alloc (.cells (madeCells #[.int .i64 0] n) 2)).setCell ⟨w.heap.size, i, none⟩ (.slice (some ⟨wr.heap.size, 0, none⟩) n n)) n (sqTo n g i 0) (us.set i (.slice (some ⟨wr.heap.size, 0, none⟩) n n)) := by
  obtain ⟨hr, hb⟩ := h
  have hA : Below wr.heap.size wr (wr.alloc (.cells (madeCells #[.int .i64 0] n) 2)) := (Below.refl _ _).alloc (Nat.le_refl _) _
  have h1 := (hr.below hA).putRow (i := i) (u := .slice (some ⟨wr.heap.size, 0, none⟩) n n) (xs := List.replicate n 0) (by rw [outTo_length]; exact hi) ((zeros_fresh wr n hn).mono hb.size)
    (fun b hb' => by
      simp [Value.ownBlock] at hb'
      subst hb'
      obtain ⟨g', c', hv, _, h2⟩ := hr.top
      simp only [Value.slice.injEq, Option.some.injEq, Addr.mk.injEq] at hv
      refine ⟨by omega, fun j hj _ c => ?_⟩
      have := (hr.rows j _ hj c).2
      omega)
  rw [sqTo_start] at h1
  exact ⟨h1, (hb.alloc hb.size _).setCell (Nat.le_refl _) _⟩
theorem Sq.num {w wr : World} {n i k gr cr : Nat} {g : Nat → Nat → Int} {us : List Value} (h : Sq w wr n (sqTo n g i k) us) (hi : i < n) (hu : us.getD i undef = .slice (some ⟨gr, 0, none⟩) n cr) :
    Sq w (wr.setCell ⟨gr, k, none⟩ (.int .i64 (g i k))) n (sqTo n g i (k + 1)) us := by
  obtain ⟨hr, hb⟩ := h
  have h1 := hr.setRow (i := i) (by rw [sqTo_length]; exact hi) hu k (g i k)
  rw [sqTo_step _ _ _ _ hi] at h1
  have := hr.rows i gr (by rw [sqTo_length]; exact hi) (by rw [hu]; rfl)
  exact ⟨h1, hb.setCell this.1 _⟩
theorem Sq.topAt {w wr : World} {n i : Nat} {xss : List (List Int)} {us : List Value} (h : Sq w wr n xss us) (hl : xss.length = n) (hi : i < n) :
    wr.cell? ⟨w.heap.size, i, none⟩ = some (us.getD i undef) ∧ wr.frozen? ⟨w.heap.size, i, none⟩ = false := by
  have htp := h.rows.own.top
  have hul := h.rows.own.len
  rw [hl] at htp hul
  refine ⟨?_, World.ownsRow.frozenAt htp i⟩
  rw [World.ownsRow.cellAt htp i (by omega)]
  simp [hul, hi]
theorem Sq.numAt {w wr : World} {n i k gr cr : Nat} {g : Nat → Nat → Int} {us : List Value} (h : Sq w wr n (sqTo n g i k) us) (hi : i < n) (hk : k < n) (hu : us.getD i undef = .slice (some ⟨gr, 0, none⟩) n cr) :
    (∃ x, wr.cell? ⟨gr, k, none⟩ = some (.int .i64 x)) ∧ wr.frozen? ⟨gr, k, none⟩ = false ∧ gr < wr.heap.size := by
  have hro := h.rows.own.rows i (by rw [sqTo_length]; exact hi)
  rw [sqTo_row _ _ _ _ hi, hu] at hro
  exact ⟨⟨_, own_cellN hro (row_length _ _).symm hk⟩, own_frozenN hro (row_length _ _).symm k, (h.rows.rows i gr (by rw [sqTo_length]; exact hi) (by rw [hu]; rfl)).2⟩
set_option maxRecDepth 100000 in
set_option maxHeartbeats 2000000 in
theorem squareRows_sym (Bc n : Nat) (g : Nat → Nat → Int) (w : World) (hn1 : 1 ≤ n) (hn5 : n ≤ 5) (hcl : TellsAt 91 Bc n g w) :
    Calls Try.prog 75 #[.int .i64 n, .func (.func 91) #[] #[.pointer (some ⟨Bc, 0, none⟩)]] w fun e w' => ∃ us, e = .returned (.slice (some ⟨w.heap.size, 0, none⟩) n n) ∧ FreshR w.heap.size w' (.slice (some ⟨w.heap.size, 0, none⟩) n n) (tab n g) us ∧ Below w.heap.size w w' := by
  have hmk := run_make_row' (P := Try.prog) 22 23 (.slice none 0 0) 24 Try.underlying22 info_ints rfl .i64 .i64 n (by omega) (by omega)
  have hmk2 := run_make_row' (P := Try.prog) 23 2 (.int .i64 0) 8 Try.underlying23 info_int rfl .i64 .i64 n (by omega) (by omega)
  have HCL := Lib.hid hcl
  clear hcl
  have hS0 : Sq w (w.alloc (.cells (madeCells #[.slice none 0 0] n) 23)) n (outTo n g 0) (List.replicate n (.slice none 0 0)) := ⟨by rw [outTo_zero]; exact freshR_made w n (by unfold maxLen; omega), (Below.refl _ _).alloc (Nat.le_refl _) _⟩
  have HS0 := Lib.hid hS0
  clear hS0
  go_enter Try.func75, Try.ntmps75
  go_wp2_with fail
  go_loopw [6, 7, 12, 25] (fun _ _ c _ wr => ∃ (i : Nat) (us : List Value), i ≤ n ∧ c = .int .i64 i ∧ Sq w wr n (outTo n g i) us) (fun _ _ c _ _ => n - (intOf c).toNat)
  case atStart => exact ⟨0, _, Nat.zero_le _, rfl, HS0.out⟩
  case round =>
    obtain ⟨i, us, hi, rfl, hS⟩ := hrel
    obtain ⟨Wr, rfl⟩ : ∃ W, W = wr := ⟨_, rfl⟩
    by_cases hlt : i < n
    · obtain ⟨t1, z1⟩ := hS.topAt (outTo_length _ _ _) hlt
      have hgw : w.heap.size < Wr.heap.size := by obtain ⟨g', c', hv, _, h2⟩ := hS.rows.top; simp only [Value.slice.injEq, Option.some.injEq, Addr.mk.injEq] at hv; omega
      have hs1 := hS.row hlt (by unfold maxLen; omega)
      rw [World.setCell_alloc_past _ _ _ _ hgw] at hs1
      have hul := hS.rows.own.len
      rw [outTo_length] at hul
      have hu2 : (us.set i (.slice (some ⟨Wr.heap.size, 0, none⟩) n n)).getD i undef = .slice (some ⟨Wr.heap.size, 0, none⟩) n n := getD_set_self _ _ _ _ (by omega)
      obtain ⟨W1, hW1⟩ : ∃ W1, W1 = ((Wr.setCell ⟨w.heap.size, i, none⟩ (.slice (some ⟨Wr.heap.size, 0, none⟩) n n)).alloc (.cells (madeCells #[.int .i64 0] n) 2)) := ⟨_, rfl⟩
      rw [← hW1] at hs1
      have hc1 := (hs1.topAt (sqTo_length _ _ _ _) hlt).1
      rw [hu2] at hc1
      have HS1 := Lib.hid hs1
      have HU := Lib.hid hu2
      have HW := Lib.hid hW1
      clear hS hs1 hu2 hul hW1
      generalize us.set i (.slice (some ⟨Wr.heap.size, 0, none⟩) n n) = us2 at *
      generalize us.getD i undef = pv at *
      go_wp2_with fail
      rw [← HW.out]
      have hzW : Wr.heap.size < W1.heap.size := by rw [HW.out]; simp
      clear t1 z1 HW hmk hmk2
      go_loopw [7, 25] (fun _ c wi => ∃ (k : Nat), k ≤ n ∧ c = .int .i64 k ∧ Sq w wi n (sqTo n g i k) us2) (fun _ c _ => n - (intOf c).toNat)
      case atStart => exact ⟨0, Nat.zero_le _, rfl, HS1.out⟩
      case round =>
        obtain ⟨k, hk, rfl, hI⟩ := hrel
        by_cases hltk : k < n
        · have d1 := (hI.topAt (sqTo_length _ _ _ _) hlt).1
          rw [HU.out] at d1
          have hdt := fun (w2 : World) (h : Below wr.heap.size wr w2) => h
          have HI := Lib.hid hI
          have hbw := hI.below
          have hcall := fun (w2 : World) (h : Below wr.heap.size wr w2) => HCL.out w2 i k (hbw.trans (h.mono hbw.size)) hlt hltk
          have HC := Lib.hid hcall
          have hst := fun (w2 : World) (h : Below wr.heap.size wr w2) => And.intro ((HI.out.next h).numAt hlt hltk HU.out) ((HI.out.next h).num (k := k) hlt HU.out)
          have HST := Lib.hid hst
          have dt := fun (w2 : World) (h : Below wr.heap.size wr w2) => (h.cell (p := ⟨w.heap.size, i, none⟩) (World.block_lt_of_cell? wr _ d1)).trans d1
          clear hI hcall hst hbw hdt
          go_wp2_with fail
          go_region_with (go_at_call 91; refine (HC.out _ (by (repeat' (first | (with_reducible exact Below.refl _ _) | (with_reducible assumption) | (with_reducible refine Below.alloc ?_ ?_ _) | (with_reducible refine Below.drew ?_) | (with_reducible refine below_drewN ?_ _) | (with_reducible refine Below.setCell ?_ ?_ _) | (with_reducible refine Below.trans ?_ (Below.mono (by with_reducible assumption) ?_)) | (with_reducible exact Below.size (by with_reducible assumption)) | go_size)))).mono ?_; rintro e w2 ⟨rfl, hb2⟩; have hk2 : Below wr.heap.size wr w2 := (by (repeat' (first | (with_reducible exact Below.refl _ _) | (with_reducible assumption) | (with_reducible refine Below.alloc ?_ ?_ _) | (with_reducible refine Below.drew ?_) | (with_reducible refine below_drewN ?_ _) | (with_reducible refine Below.setCell ?_ ?_ _) | (with_reducible refine Below.trans ?_ (Below.mono (by with_reducible assumption) ?_)) | (with_reducible exact Below.size (by with_reducible assumption)) | go_size))); have d2 := dt _ hk2; obtain ⟨⟨⟨pv2, p1⟩, p2, p3⟩, p4⟩ := HST.out _ hk2; have P4 := Lib.hid p4; clear p4)
          all_goals
            go_wp2_with fail
            go_roundw
            case rel => exact ⟨k + 1, by omega, by go_num, P4.out⟩
            case measure => simp [intOf]; omega
        · obtain rfl : k = n := by omega
          rw [sqTo_all] at hI
          have HI := Lib.hid hI
          clear hI
          go_wp2_with fail
          go_roundw
          case rel => exact ⟨i + 1, _, by omega, by go_num, HI.out⟩
          case measure => simp [intOf]; omega
    · obtain rfl : i = n := by omega
      have hend := hS.rows
      rw [outTo_all] at hend
      have HEND := Lib.hid hend
      have hb := hS.below
      clear hend hS
      go_wp2_with fail
      go_ret
      exact ⟨us, rfl, HEND.out, hb⟩
set_option maxRecDepth 100000 in
set_option maxHeartbeats 2000000 in
theorem squareRows_cmp (Bc n : Nat) (g : Nat → Nat → Int) (w : World) (hn1 : 1 ≤ n) (hn5 : n ≤ 5) (hcl : TellsAt 92 Bc n g w) :
    Calls Try.prog 75 #[.int .i64 n, .func (.func 92) #[] #[.pointer (some ⟨Bc, 0, none⟩)]] w fun e w' => ∃ us, e = .returned (.slice (some ⟨w.heap.size, 0, none⟩) n n) ∧ FreshR w.heap.size w' (.slice (some ⟨w.heap.size, 0, none⟩) n n) (tab n g) us ∧ Below w.heap.size w w' := by
  have hmk := run_make_row' (P := Try.prog) 22 23 (.slice none 0 0) 24 Try.underlying22 info_ints rfl .i64 .i64 n (by omega) (by omega)
  have hmk2 := run_make_row' (P := Try.prog) 23 2 (.int .i64 0) 8 Try.underlying23 info_int rfl .i64 .i64 n (by omega) (by omega)
  have HCL := Lib.hid hcl
  clear hcl
  have hS0 : Sq w (w.alloc (.cells (madeCells #[.slice none 0 0] n) 23)) n (outTo n g 0) (List.replicate n (.slice none 0 0)) := ⟨by rw [outTo_zero]; exact freshR_made w n (by unfold maxLen; omega), (Below.refl _ _).alloc (Nat.le_refl _) _⟩
  have HS0 := Lib.hid hS0
  clear hS0
  go_enter Try.func75, Try.ntmps75
  go_wp2_with fail
  go_loopw [6, 7, 12, 25] (fun _ _ c _ wr => ∃ (i : Nat) (us : List Value), i ≤ n ∧ c = .int .i64 i ∧ Sq w wr n (outTo n g i) us) (fun _ _ c _ _ => n - (intOf c).toNat)
  case atStart => exact ⟨0, _, Nat.zero_le _, rfl, HS0.out⟩
  case round =>
    obtain ⟨i, us, hi, rfl, hS⟩ := hrel
    obtain ⟨Wr, rfl⟩ : ∃ W, W = wr := ⟨_, rfl⟩
    by_cases hlt : i < n
    · obtain ⟨t1, z1⟩ := hS.topAt (outTo_length _ _ _) hlt
      have hgw : w.heap.size < Wr.heap.size := by obtain ⟨g', c', hv, _, h2⟩ := hS.rows.top; simp only [Value.slice.injEq, Option.some.injEq, Addr.mk.injEq] at hv; omega
      have hs1 := hS.row hlt (by unfold maxLen; omega)
      rw [World.setCell_alloc_past _ _ _ _ hgw] at hs1
      have hul := hS.rows.own.len
      rw [outTo_length] at hul
      have hu2 : (us.set i (.slice (some ⟨Wr.heap.size, 0, none⟩) n n)).getD i undef = .slice (some ⟨Wr.heap.size, 0, none⟩) n n := getD_set_self _ _ _ _ (by omega)
      obtain ⟨W1, hW1⟩ : ∃ W1, W1 = ((Wr.setCell ⟨w.heap.size, i, none⟩ (.slice (some ⟨Wr.heap.size, 0, none⟩) n n)).alloc (.cells (madeCells #[.int .i64 0] n) 2)) := ⟨_, rfl⟩
      rw [← hW1] at hs1
      have hc1 := (hs1.topAt (sqTo_length _ _ _ _) hlt).1
      rw [hu2] at hc1
      have HS1 := Lib.hid hs1
      have HU := Lib.hid hu2
      have HW := Lib.hid hW1
      clear hS hs1 hu2 hul hW1
      generalize us.set i (.slice (some ⟨Wr.heap.size, 0, none⟩) n n) = us2 at *
      generalize us.getD i undef = pv at *
      go_wp2_with fail
      rw [← HW.out]
      have hzW : Wr.heap.size < W1.heap.size := by rw [HW.out]; simp
      clear t1 z1 HW hmk hmk2
      go_loopw [7, 25] (fun _ c wi => ∃ (k : Nat), k ≤ n ∧ c = .int .i64 k ∧ Sq w wi n (sqTo n g i k) us2) (fun _ c _ => n - (intOf c).toNat)
      case atStart => exact ⟨0, Nat.zero_le _, rfl, HS1.out⟩
      case round =>
        obtain ⟨k, hk, rfl, hI⟩ := hrel
        by_cases hltk : k < n
        · have d1 := (hI.topAt (sqTo_length _ _ _ _) hlt).1
          rw [HU.out] at d1
          have hdt := fun (w2 : World) (h : Below wr.heap.size wr w2) => h
          have HI := Lib.hid hI
          have hbw := hI.below
          have hcall := fun (w2 : World) (h : Below wr.heap.size wr w2) => HCL.out w2 i k (hbw.trans (h.mono hbw.size)) hlt hltk
          have HC := Lib.hid hcall
          have hst := fun (w2 : World) (h : Below wr.heap.size wr w2) => And.intro ((HI.out.next h).numAt hlt hltk HU.out) ((HI.out.next h).num (k := k) hlt HU.out)
          have HST := Lib.hid hst
          have dt := fun (w2 : World) (h : Below wr.heap.size wr w2) => (h.cell (p := ⟨w.heap.size, i, none⟩) (World.block_lt_of_cell? wr _ d1)).trans d1
          clear hI hcall hst hbw hdt
          go_wp2_with fail
          go_region_with (go_at_call 92; refine (HC.out _ (by (repeat' (first | (with_reducible exact Below.refl _ _) | (with_reducible assumption) | (with_reducible refine Below.alloc ?_ ?_ _) | (with_reducible refine Below.drew ?_) | (with_reducible refine below_drewN ?_ _) | (with_reducible refine Below.setCell ?_ ?_ _) | (with_reducible refine Below.trans ?_ (Below.mono (by with_reducible assumption) ?_)) | (with_reducible exact Below.size (by with_reducible assumption)) | go_size)))).mono ?_; rintro e w2 ⟨rfl, hb2⟩; have hk2 : Below wr.heap.size wr w2 := (by (repeat' (first | (with_reducible exact Below.refl _ _) | (with_reducible assumption) | (with_reducible refine Below.alloc ?_ ?_ _) | (with_reducible refine Below.drew ?_) | (with_reducible refine below_drewN ?_ _) | (with_reducible refine Below.setCell ?_ ?_ _) | (with_reducible refine Below.trans ?_ (Below.mono (by with_reducible assumption) ?_)) | (with_reducible exact Below.size (by with_reducible assumption)) | go_size))); have d2 := dt _ hk2; obtain ⟨⟨⟨pv2, p1⟩, p2, p3⟩, p4⟩ := HST.out _ hk2; have P4 := Lib.hid p4; clear p4)
          all_goals
            go_wp2_with fail
            go_roundw
            case rel => exact ⟨k + 1, by omega, by go_num, P4.out⟩
            case measure => simp [intOf]; omega
        · obtain rfl : k = n := by omega
          rw [sqTo_all] at hI
          have HI := Lib.hid hI
          clear hI
          go_wp2_with fail
          go_roundw
          case rel => exact ⟨i + 1, _, by omega, by go_num, HI.out⟩
          case measure => simp [intOf]; omega
    · obtain rfl : i = n := by omega
      have hend := hS.rows
      rw [outTo_all] at hend
      have HEND := Lib.hid hend
      have hb := hS.below
      clear hend hS
      go_wp2_with fail
      go_ret
      exact ⟨us, rfl, HEND.out, hb⟩
set_option maxRecDepth 100000 in
set_option maxHeartbeats 2000000 in
theorem squareRows_sgn (Bc n : Nat) (g : Nat → Nat → Int) (w : World) (hn1 : 1 ≤ n) (hn5 : n ≤ 5) (hcl : TellsAt 76 Bc n g w) :
    Calls Try.prog 75 #[.int .i64 n, .func (.func 76) #[] #[.pointer (some ⟨Bc, 0, none⟩)]] w fun e w' => ∃ us, e = .returned (.slice (some ⟨w.heap.size, 0, none⟩) n n) ∧ FreshR w.heap.size w' (.slice (some ⟨w.heap.size, 0, none⟩) n n) (tab n g) us ∧ Below w.heap.size w w' := by
  have hmk := run_make_row' (P := Try.prog) 22 23 (.slice none 0 0) 24 Try.underlying22 info_ints rfl .i64 .i64 n (by omega) (by omega)
  have hmk2 := run_make_row' (P := Try.prog) 23 2 (.int .i64 0) 8 Try.underlying23 info_int rfl .i64 .i64 n (by omega) (by omega)
  have HCL := Lib.hid hcl
  clear hcl
  have hS0 : Sq w (w.alloc (.cells (madeCells #[.slice none 0 0] n) 23)) n (outTo n g 0) (List.replicate n (.slice none 0 0)) := ⟨by rw [outTo_zero]; exact freshR_made w n (by unfold maxLen; omega), (Below.refl _ _).alloc (Nat.le_refl _) _⟩
  have HS0 := Lib.hid hS0
  clear hS0
  go_enter Try.func75, Try.ntmps75
  go_wp2_with fail
  go_loopw [6, 7, 12, 25] (fun _ _ c _ wr => ∃ (i : Nat) (us : List Value), i ≤ n ∧ c = .int .i64 i ∧ Sq w wr n (outTo n g i) us) (fun _ _ c _ _ => n - (intOf c).toNat)
  case atStart => exact ⟨0, _, Nat.zero_le _, rfl, HS0.out⟩
  case round =>
    obtain ⟨i, us, hi, rfl, hS⟩ := hrel
    obtain ⟨Wr, rfl⟩ : ∃ W, W = wr := ⟨_, rfl⟩
    by_cases hlt : i < n
    · obtain ⟨t1, z1⟩ := hS.topAt (outTo_length _ _ _) hlt
      have hgw : w.heap.size < Wr.heap.size := by obtain ⟨g', c', hv, _, h2⟩ := hS.rows.top; simp only [Value.slice.injEq, Option.some.injEq, Addr.mk.injEq] at hv; omega
      have hs1 := hS.row hlt (by unfold maxLen; omega)
      rw [World.setCell_alloc_past _ _ _ _ hgw] at hs1
      have hul := hS.rows.own.len
      rw [outTo_length] at hul
      have hu2 : (us.set i (.slice (some ⟨Wr.heap.size, 0, none⟩) n n)).getD i undef = .slice (some ⟨Wr.heap.size, 0, none⟩) n n := getD_set_self _ _ _ _ (by omega)
      obtain ⟨W1, hW1⟩ : ∃ W1, W1 = ((Wr.setCell ⟨w.heap.size, i, none⟩ (.slice (some ⟨Wr.heap.size, 0, none⟩) n n)).alloc (.cells (madeCells #[.int .i64 0] n) 2)) := ⟨_, rfl⟩
      rw [← hW1] at hs1
      have hc1 := (hs1.topAt (sqTo_length _ _ _ _) hlt).1
      rw [hu2] at hc1
      have HS1 := Lib.hid hs1
      have HU := Lib.hid hu2
      have HW := Lib.hid hW1
      clear hS hs1 hu2 hul hW1
      generalize us.set i (.slice (some ⟨Wr.heap.size, 0, none⟩) n n) = us2 at *
      generalize us.getD i undef = pv at *
      go_wp2_with fail
      rw [← HW.out]
      have hzW : Wr.heap.size < W1.heap.size := by rw [HW.out]; simp
      clear t1 z1 HW hmk hmk2
      go_loopw [7, 25] (fun _ c wi => ∃ (k : Nat), k ≤ n ∧ c = .int .i64 k ∧ Sq w wi n (sqTo n g i k) us2) (fun _ c _ => n - (intOf c).toNat)
      case atStart => exact ⟨0, Nat.zero_le _, rfl, HS1.out⟩
      case round =>
        obtain ⟨k, hk, rfl, hI⟩ := hrel
        by_cases hltk : k < n
        · have d1 := (hI.topAt (sqTo_length _ _ _ _) hlt).1
          rw [HU.out] at d1
          have hdt := fun (w2 : World) (h : Below wr.heap.size wr w2) => h
          have HI := Lib.hid hI
          have hbw := hI.below
          have hcall := fun (w2 : World) (h : Below wr.heap.size wr w2) => HCL.out w2 i k (hbw.trans (h.mono hbw.size)) hlt hltk
          have HC := Lib.hid hcall
          have hst := fun (w2 : World) (h : Below wr.heap.size wr w2) => And.intro ((HI.out.next h).numAt hlt hltk HU.out) ((HI.out.next h).num (k := k) hlt HU.out)
          have HST := Lib.hid hst
          have dt := fun (w2 : World) (h : Below wr.heap.size wr w2) => (h.cell (p := ⟨w.heap.size, i, none⟩) (World.block_lt_of_cell? wr _ d1)).trans d1
          clear hI hcall hst hbw hdt
          go_wp2_with fail
          go_region_with (go_at_call 76; refine (HC.out _ (by (repeat' (first | (with_reducible exact Below.refl _ _) | (with_reducible assumption) | (with_reducible refine Below.alloc ?_ ?_ _) | (with_reducible refine Below.drew ?_) | (with_reducible refine below_drewN ?_ _) | (with_reducible refine Below.setCell ?_ ?_ _) | (with_reducible refine Below.trans ?_ (Below.mono (by with_reducible assumption) ?_)) | (with_reducible exact Below.size (by with_reducible assumption)) | go_size)))).mono ?_; rintro e w2 ⟨rfl, hb2⟩; have hk2 : Below wr.heap.size wr w2 := (by (repeat' (first | (with_reducible exact Below.refl _ _) | (with_reducible assumption) | (with_reducible refine Below.alloc ?_ ?_ _) | (with_reducible refine Below.drew ?_) | (with_reducible refine below_drewN ?_ _) | (with_reducible refine Below.setCell ?_ ?_ _) | (with_reducible refine Below.trans ?_ (Below.mono (by with_reducible assumption) ?_)) | (with_reducible exact Below.size (by with_reducible assumption)) | go_size))); have d2 := dt _ hk2; obtain ⟨⟨⟨pv2, p1⟩, p2, p3⟩, p4⟩ := HST.out _ hk2; have P4 := Lib.hid p4; clear p4)
          all_goals
            go_wp2_with fail
            go_roundw
            case rel => exact ⟨k + 1, by omega, by go_num, P4.out⟩
            case measure => simp [intOf]; omega
        · obtain rfl : k = n := by omega
          rw [sqTo_all] at hI
          have HI := Lib.hid hI
          clear hI
          go_wp2_with fail
          go_roundw
          case rel => exact ⟨i + 1, _, by omega, by go_num, HI.out⟩
          case measure => simp [intOf]; omega
    · obtain rfl : i = n := by omega
      have hend := hS.rows
      rw [outTo_all] at hend
      have HEND := Lib.hid hend
      have hb := hS.below
      clear hend hS
      go_wp2_with fail
      go_ret
      exact ⟨us, rfl, HEND.out, hb⟩
end Go.Proofs.Ytillndnamechdaa.PW
