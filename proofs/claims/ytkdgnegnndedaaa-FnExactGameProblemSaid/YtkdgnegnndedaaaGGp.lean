/-
  GameProblem: the problem of a game, in the model and in the program, and the exact law.
-/
import Derived.Test.YtkdgnegnndedaaaGCon
import Derived.Test.YtkdgnegnndedaaaGXch
import Derived.Test.YtkdgnegnndedaaaPPg
import Derived.Test.YtkdgnegnndedaaaPRep
import Derived.Test.YtkdgnegnndedaaaPTb
import Derived.Test.YtkdgnegnndedaaaQSq
namespace Go.Proofs.Ytkdgnegnndedaaa.PW
open Go.RowKit Go.Proofs.Ytkdgnegnndedaaa
open Go.Proofs.Ytkdgnegnndedaaa.PM Go.Proofs.Ytkdgnegnndedaaa.PX
attribute [local go_sem] Oper.semAt_some

/-- The numbers of a game's problem. -/
def gpG (A B : List (List Int)) (k i j : Nat) : Int := if i < k ∧ k ≤ j then - gE A i (j - k) else if k ≤ i ∧ j < k then - gE B j (i - k) else 0
def gpOut (A B : List (List Int)) : List (List Int) × List Int × Int := if isGB A B = true then (tab (A.length + gcols A) (gpG A B A.length), List.replicate (A.length + gcols A) 1, 0) else ([], [], 1)
theorem gpOut_no {A B : List (List Int)} (h : isGB A B = false) : gpOut A B = ([], [], 1) := by unfold gpOut; rw [if_neg (by simp [h])]
theorem gpOut_ok {A B : List (List Int)} (h : isGB A B = true) : gpOut A B = (tab (A.length + gcols A) (gpG A B A.length), List.replicate (A.length + gcols A) 1, 0) := by unfold gpOut; rw [if_pos h]
theorem gpG_one {A B : List (List Int)} {k i j : Nat} (h1 : i < k) (h2 : k ≤ j) : gpG A B k i j = - gE A i (j - k) := by unfold gpG; rw [if_pos ⟨h1, h2⟩]
theorem gpG_two {A B : List (List Int)} {k i j : Nat} (h1 : k ≤ i) (h2 : j < k) : gpG A B k i j = - gE B j (i - k) := by unfold gpG; rw [if_neg (by omega), if_pos ⟨h1, h2⟩]
theorem gpG_no {A B : List (List Int)} {k i j : Nat} (h1 : ¬ (i < k ∧ k ≤ j)) (h2 : ¬ (k ≤ i ∧ j < k)) : gpG A B k i j = 0 := by unfold gpG; rw [if_neg h1, if_neg h2]
theorem fine_gp (A B : List (List Int)) : Fine (gpOut A B) := by
  cases h : isGB A B
  · rw [gpOut_no h]; exact fine_nil 1
  · rw [gpOut_ok h]
    obtain ⟨k1, l1, n5, bk, al, bl, ae, be⟩ := (isGB_iff A B).1 h
    refine ⟨fun j hj x hx => ?_, fun x hx => ?_, tab_tot _ _ n5, ?_⟩
    · dsimp only at hj hx
      rw [tab_length] at hj
      rw [tab_row _ _ _ hj] at hx
      obtain ⟨b, hb, rfl⟩ := List.mem_map.1 hx
      have hb : b < A.length + gcols A := by simpa using hb
      unfold I64
      by_cases c1 : j < A.length ∧ A.length ≤ b
      · rw [gpG_one c1.1 c1.2]
        have := ae j (b - A.length) c1.1 (by omega)
        omega
      · by_cases c2 : A.length ≤ j ∧ b < A.length
        · rw [gpG_two c2.1 c2.2]
          have := be b (j - A.length) c2.2 (by omega)
          omega
        · rw [gpG_no c1 c2]; omega
    · have := List.eq_of_mem_replicate hx
      subst this
      unfold I64
      omega
    · show (List.replicate _ (1 : Int)).length ≤ _
      rw [List.length_replicate]
      omega
theorem ownR_keep {W W' : World} {v : Value} {xss : List (List Int)} {us : List Value} (h : OwnR W v xss us) (hv : ∀ b, v.ownBlock = some b → W'.heap[b]? = W.heap[b]?)
    (hu : ∀ i b, i < xss.length → (us.getD i undef).ownBlock = some b → W'.heap[b]? = W.heap[b]?) : OwnR W' v xss us := by
  obtain ⟨h1, h2, h3, h4, h5⟩ := h
  exact ⟨h1, own_keep h2 hv, fun i hi => own_keep (h3 i hi) (fun b hb => hu i b hi hb), h4, h5⟩
theorem gp_drewN (w : World) (n : Nat) : (w.drewN n).heap.size = w.heap.size := rfl
theorem outP_err {w w' : World} {c : Int} (h : Below w.heap.size w w') : OutP w ([], [], c) (.returned (.tuple #[.agg #[.slice none 0 0, .slice none 0 0], .int .i64 c])) w' :=
  ⟨_, _, [], rfl, ownP_nil _ _, h⟩

/-- What a function value gives that closes over two variables. -/
def Tells2 (G Bc Bd n : Nat) (g : Nat → Nat → Int) (w : World) : Prop :=
  ∀ (w' : World) (i k : Nat), Below w.heap.size w w' → i < n → k < n → Calls Try.prog G #[.int .i64 i, .int .i64 k, .pointer (some ⟨Bc, 0, none⟩), .pointer (some ⟨Bd, 0, none⟩)] w' fun e w'' => e = .returned (.int .i64 (g i k)) ∧ Below w'.heap.size w' w''
set_option maxRecDepth 100000 in
set_option maxHeartbeats 2000000 in
theorem squareRows_gam (Bc Bd n : Nat) (g : Nat → Nat → Int) (w : World) (hn1 : 1 ≤ n) (hn5 : n ≤ 5) (hcl : Tells2 81 Bc Bd n g w) :
    Calls Try.prog 80 #[.int .i64 n, .func (.func 81) #[] #[.pointer (some ⟨Bc, 0, none⟩), .pointer (some ⟨Bd, 0, none⟩)]] w fun e w' => ∃ us, e = .returned (.slice (some ⟨w.heap.size, 0, none⟩) n n) ∧ FreshR w.heap.size w' (.slice (some ⟨w.heap.size, 0, none⟩) n n) (tab n g) us ∧ Below w.heap.size w w' := by
  have hmk := run_make_row' (P := Try.prog) 22 23 (.slice none 0 0) 24 Try.underlying22 info_ints rfl .i64 .i64 n (by omega) (by omega)
  have hmk2 := run_make_row' (P := Try.prog) 23 2 (.int .i64 0) 8 Try.underlying23 info_int rfl .i64 .i64 n (by omega) (by omega)
  have HCL := Lib.hid hcl
  clear hcl
  have hS0 : Sq w (w.alloc (.cells (madeCells #[.slice none 0 0] n) 23)) n (outTo n g 0) (List.replicate n (.slice none 0 0)) := ⟨by rw [outTo_zero]; exact freshR_made w n (by unfold maxLen; omega), (Below.refl _ _).alloc (Nat.le_refl _) _⟩
  have HS0 := Lib.hid hS0
  clear hS0
  go_enter Try.func80, Try.ntmps80
  go_wp2_with fail
  go_loopw [6, 7, 12, 25] (fun _ _ c _ wr => ∃ (i : Nat) (us : List Value), i ≤ n ∧ c = .int .i64 i ∧ Sq w wr n (outTo n g i) us) (fun _ _ c _ _ => n - (intOf c).toNat)
  case atStart => exact ⟨0, _, Nat.zero_le _, rfl, HS0.out⟩
  case round =>
    obtain ⟨i, us, hi, rfl, hS⟩ := hrel
    obtain ⟨Wr, rfl⟩ : ∃ W, W = wr := ⟨_, rfl⟩
    by_cases hlt : i < n
    · obtain ⟨t1, z1⟩ := hS.topAt (outTo_length _ _ _) hlt
      have hgw : w.heap.size < Wr.heap.size := by obtain ⟨g', c', hv, _, h2⟩ := hS.rows.top; simp only [Value.slice.injEq, Option.some.injEq, Addr.mk.injEq] at hv; omega
      have hs1 := hS.row hlt (by unfold maxLen; omega)
      rw [World.setCell_alloc_past _ _ _ _ hgw] at hs1
      have hul := hS.rows.own.len
      rw [outTo_length] at hul
      have hu2 : (us.set i (.slice (some ⟨Wr.heap.size, 0, none⟩) n n)).getD i undef = .slice (some ⟨Wr.heap.size, 0, none⟩) n n := getD_set_self _ _ _ _ (by omega)
      obtain ⟨W1, hW1⟩ : ∃ W1, W1 = ((Wr.setCell ⟨w.heap.size, i, none⟩ (.slice (some ⟨Wr.heap.size, 0, none⟩) n n)).alloc (.cells (madeCells #[.int .i64 0] n) 2)) := ⟨_, rfl⟩
      rw [← hW1] at hs1
      have hc1 := (hs1.topAt (sqTo_length _ _ _ _) hlt).1
      rw [hu2] at hc1
      have HS1 := Lib.hid hs1
      have HU := Lib.hid hu2
      have HW := Lib.hid hW1
      clear hS hs1 hu2 hul hW1
      generalize us.set i (.slice (some ⟨Wr.heap.size, 0, none⟩) n n) = us2 at *
      generalize us.getD i undef = pv at *
      go_wp2_with fail
      rw [← HW.out]
      have hzW : Wr.heap.size < W1.heap.size := by rw [HW.out]; simp
      clear t1 z1 HW hmk hmk2
      go_loopw [7, 25] (fun _ c wi => ∃ (k : Nat), k ≤ n ∧ c = .int .i64 k ∧ Sq w wi n (sqTo n g i k) us2) (fun _ c _ => n - (intOf c).toNat)
      case atStart => exact ⟨0, Nat.zero_le _, rfl, HS1.out⟩
      case round =>
        obtain ⟨k, hk, rfl, hI⟩ := hrel
        by_cases hltk : k < n
        · have d1 := (hI.topAt (sqTo_length _ _ _ _) hlt).1
          rw [HU.out] at d1
          have hdt := fun (w2 : World) (h : Below wr.heap.size wr w2) => h
          have HI := Lib.hid hI
          have hbw := hI.below
          have hcall := fun (w2 : World) (h : Below wr.heap.size wr w2) => HCL.out w2 i k (hbw.trans (h.mono hbw.size)) hlt hltk
          have HC := Lib.hid hcall
          have hst := fun (w2 : World) (h : Below wr.heap.size wr w2) => And.intro ((HI.out.next h).numAt hlt hltk HU.out) ((HI.out.next h).num (k := k) hlt HU.out)
          have HST := Lib.hid hst
          have dt := fun (w2 : World) (h : Below wr.heap.size wr w2) => (h.cell (p := ⟨w.heap.size, i, none⟩) (World.block_lt_of_cell? wr _ d1)).trans d1
          clear hI hcall hst hbw hdt
          go_wp2_with fail
          go_region_with (go_at_call 81; refine (HC.out _ (by (repeat' (first | (with_reducible exact Below.refl _ _) | (with_reducible assumption) | (with_reducible refine Below.alloc ?_ ?_ _) | (with_reducible refine Below.drew ?_) | (with_reducible refine below_drewN ?_ _) | (with_reducible refine Below.setCell ?_ ?_ _) | (with_reducible refine Below.trans ?_ (Below.mono (by with_reducible assumption) ?_)) | (with_reducible exact Below.size (by with_reducible assumption)) | go_size)))).mono ?_; rintro e w2 ⟨rfl, hb2⟩; have hk2 : Below wr.heap.size wr w2 := (by (repeat' (first | (with_reducible exact Below.refl _ _) | (with_reducible assumption) | (with_reducible refine Below.alloc ?_ ?_ _) | (with_reducible refine Below.drew ?_) | (with_reducible refine below_drewN ?_ _) | (with_reducible refine Below.setCell ?_ ?_ _) | (with_reducible refine Below.trans ?_ (Below.mono (by with_reducible assumption) ?_)) | (with_reducible exact Below.size (by with_reducible assumption)) | go_size))); have d2 := dt _ hk2; obtain ⟨⟨⟨pv2, p1⟩, p2, p3⟩, p4⟩ := HST.out _ hk2; have P4 := Lib.hid p4; clear p4)
          all_goals
            go_wp2_with fail
            go_roundw
            case rel => exact ⟨k + 1, by omega, by go_num, P4.out⟩
            case measure => simp [intOf]; omega
        · obtain rfl : k = n := by omega
          rw [sqTo_all] at hI
          have HI := Lib.hid hI
          clear hI
          go_wp2_with fail
          go_roundw
          case rel => exact ⟨i + 1, _, by omega, by go_num, HI.out⟩
          case measure => simp [intOf]; omega
    · obtain rfl : i = n := by omega
      have hend := hS.rows
      rw [outTo_all] at hend
      have HEND := Lib.hid hend
      have hb := hS.below
      clear hend hS
      go_wp2_with fail
      go_ret
      exact ⟨us, rfl, HEND.out, hb⟩
/-- Where the tables lie. -/
def TabAt (w : World) (b off k l : Nat) (T : List (List Int)) : Prop :=
  ∀ wr, Below w.heap.size w wr → ∀ i, i < k → ∃ r o d, wr.cell? ⟨b, off + i, none⟩ = some (.slice (some ⟨r, o, none⟩) l d) ∧ ∀ j, j < l → wr.cell? ⟨r, o + j, none⟩ = some (.int .i64 (gE T i j))
theorem TabAt.below {w w' : World} {b off k l : Nat} {T : List (List Int)} (h : TabAt w b off k l T) (hb : Below w.heap.size w w') : TabAt w' b off k l T := fun wr hw => h wr (hb.trans (hw.mono hb.size))

set_option maxHeartbeats 2000000 in
theorem gp_tells {w : World} {A B : List (List Int)} {Bk Bg k l b off c b2 off2 c2 : Nat} (n5 : k + l ≤ 5) (hA : TabAt w b off k l A) (hB : TabAt w b2 off2 k l B)
    (ae : ∀ i j, i < k → j < l → 1 ≤ gE A i j ∧ gE A i j ≤ 20) (be : ∀ i j, i < k → j < l → 1 ≤ gE B i j ∧ gE B i j ≤ 20)
    (d0 : w.cell? ⟨Bk, 0, none⟩ = some (.int .i64 k)) (d1 : w.cell? ⟨Bg, 0, none⟩ = some (.slice (some ⟨b, off, none⟩) k c)) (d2 : w.cell? ⟨Bg, 1, none⟩ = some (.slice (some ⟨b2, off2, none⟩) k c2)) :
    Tells2 81 Bk Bg (k + l) (gpG A B k) w := by
  intro w' i j hb hi hj
  have e0 := (hb.cell (p := ⟨Bk, 0, none⟩) (World.block_lt_of_cell? w _ d0)).trans d0
  have e1 := (hb.cell (p := ⟨Bg, 0, none⟩) (World.block_lt_of_cell? w _ d1)).trans d1
  have e2 := (hb.cell (p := ⟨Bg, 1, none⟩) (World.block_lt_of_cell? w _ d2)).trans d2
  clear d0 d1 d2
  by_cases h1 : i < k ∧ k ≤ j
  · obtain ⟨h1, h2⟩ := h1
    rw [gpG_one h1 h2]
    obtain ⟨r, o, d, f1, f2⟩ := hA w' hb i h1
    have f3 := f2 (j - k) (by omega)
    have hx := ae i (j - k) h1 (by omega)
    have hjl : j - k < l := by omega
    have g1 : (i : Int) < k := by omega
    have g2 : (j : Int) ≥ k := by omega
    clear f2 hA hB ae be
    generalize gE A i (j - k) = x at *
    go_enter Try.func81, Try.ntmps81
    go_wp2_with fail
    go_quiet (fail)
    go_wp2_with fail
    go_ret
    exact ⟨rfl, by (repeat' (first | (with_reducible exact Below.refl _ _) | (with_reducible assumption) | (with_reducible refine Below.alloc ?_ ?_ _) | (with_reducible refine Below.drew ?_) | (with_reducible refine below_drewN ?_ _) | (with_reducible refine Below.setCell ?_ ?_ _) | (with_reducible refine Below.trans ?_ (Below.mono (by with_reducible assumption) ?_)) | (with_reducible exact Below.size (by with_reducible assumption)) | go_size))⟩
  by_cases h2 : k ≤ i ∧ j < k
  · obtain ⟨h2, h3⟩ := h2
    rw [gpG_two h2 h3]
    obtain ⟨r, o, d, f1, f2⟩ := hB w' hb j h3
    have f3 := f2 (i - k) (by omega)
    have hx := be j (i - k) h3 (by omega)
    have hjl : i - k < l := by omega
    have g1 : ¬ (i : Int) < k := by omega
    have g2 : (i : Int) ≥ k := by omega
    have g3 : (j : Int) < k := by omega
    clear f2 hA hB ae be h1
    generalize gE B j (i - k) = x at *
    go_enter Try.func81, Try.ntmps81
    go_wp2_with fail
    go_quiet (fail)
    go_wp2_with fail
    go_ret
    exact ⟨rfl, by (repeat' (first | (with_reducible exact Below.refl _ _) | (with_reducible assumption) | (with_reducible refine Below.alloc ?_ ?_ _) | (with_reducible refine Below.drew ?_) | (with_reducible refine below_drewN ?_ _) | (with_reducible refine Below.setCell ?_ ?_ _) | (with_reducible refine Below.trans ?_ (Below.mono (by with_reducible assumption) ?_)) | (with_reducible exact Below.size (by with_reducible assumption)) | go_size))⟩
  · rw [gpG_no h1 h2]
    clear hA hB ae be
    by_cases g1 : i < k
    · have g2 : ¬ (j : Int) ≥ k := by omega
      have g3 : (i : Int) < k := by omega
      have g4 : ¬ (i : Int) ≥ k := by omega
      clear h1 h2
      go_enter Try.func81, Try.ntmps81
      go_wp2_with fail
      go_ret
      exact ⟨rfl, by (repeat' (first | (with_reducible exact Below.refl _ _) | (with_reducible assumption) | (with_reducible refine Below.alloc ?_ ?_ _) | (with_reducible refine Below.drew ?_) | (with_reducible refine below_drewN ?_ _) | (with_reducible refine Below.setCell ?_ ?_ _) | (with_reducible refine Below.trans ?_ (Below.mono (by with_reducible assumption) ?_)) | (with_reducible exact Below.size (by with_reducible assumption)) | go_size))⟩
    · have g2 : ¬ (j : Int) < k := by omega
      have g3 : ¬ (i : Int) < k := by omega
      have g4 : (i : Int) ≥ k := by omega
      clear h1 h2
      go_enter Try.func81, Try.ntmps81
      go_wp2_with fail
      go_ret
      exact ⟨rfl, by (repeat' (first | (with_reducible exact Below.refl _ _) | (with_reducible assumption) | (with_reducible refine Below.alloc ?_ ?_ _) | (with_reducible refine Below.drew ?_) | (with_reducible refine below_drewN ?_ _) | (with_reducible refine Below.setCell ?_ ?_ _) | (with_reducible refine Below.trans ?_ (Below.mono (by with_reducible assumption) ?_)) | (with_reducible exact Below.size (by with_reducible assumption)) | go_size))⟩

set_option maxRecDepth 100000 in
set_option maxHeartbeats 4000000 in
theorem implGameProblem_any (m q : Value) (A B : List (List Int)) (w : World) (h1 : PM.Rows w m A) (h2 : PM.Rows w q B) (hs : tot A ≤ 1048576) :
    Calls Try.prog 33 #[.agg #[m, q]] w (OutP w (gpOut A B)) := by
  have HIS := Lib.hid (fun (w' : World) (h : Below w.heap.size w w') => implIsGame_any m q A B w' (h1.below h) (h2.below h) hs)
  clear hs
  cases hc : isGB A B
  · rw [gpOut_no hc]
    rw [hc] at HIS
    obtain ⟨a1, c1, rfl, _⟩ := h1
    obtain ⟨a2, c2, rfl, _⟩ := h2
    clear hc
    go_enter Try.func33, Try.ntmps33
    go_wp2_with fail
    refine (HIS.out _ (by (repeat' (first | (with_reducible exact Below.refl _ _) | (with_reducible assumption) | (with_reducible refine Below.alloc ?_ ?_ _) | (with_reducible refine Below.drew ?_) | (with_reducible refine below_drewN ?_ _) | (with_reducible refine Below.setCell ?_ ?_ _) | (with_reducible refine Below.trans ?_ (Below.mono (by with_reducible assumption) ?_)) | (with_reducible exact Below.size (by with_reducible assumption)) | go_size)))).mono ?_; rintro e w1 ⟨rfl, hb1⟩
    have hw1 : Below w.heap.size w w1 := by (repeat' (first | (with_reducible exact Below.refl _ _) | (with_reducible assumption) | (with_reducible refine Below.alloc ?_ ?_ _) | (with_reducible refine Below.drew ?_) | (with_reducible refine below_drewN ?_ _) | (with_reducible refine Below.setCell ?_ ?_ _) | (with_reducible refine Below.trans ?_ (Below.mono (by with_reducible assumption) ?_)) | (with_reducible exact Below.size (by with_reducible assumption)) | go_size))
    have z0 : w1.cell? ⟨w.heap.size + 1, 0, none⟩ = some (.slice none 0 0) := (hb1.cell (p := ⟨w.heap.size + 1, 0, none⟩) (by simp)).trans (by simp)
    have z1 : w1.cell? ⟨w.heap.size + 1, 1, none⟩ = some (.slice none 0 0) := (hb1.cell (p := ⟨w.heap.size + 1, 1, none⟩) (by simp)).trans (by simp)
    have zf : ∀ o, w1.frozen? ⟨w.heap.size + 1, o, none⟩ = false := fun o => (hb1.frozen (p := ⟨w.heap.size + 1, o, none⟩) (by simp)).trans (by simp [go_sem])
    clear hb1
    go_wp2_with fail
    refine bodyPost_ret (v := .tuple #[.agg #[.slice none 0 0, .slice none 0 0], .int .i64 1]) (by simp [*, results, Try.results33, go_sem]) rfl ?_
    exact outP_err (by (repeat' (first | (with_reducible exact Below.refl _ _) | (with_reducible assumption) | (with_reducible refine Below.alloc ?_ ?_ _) | (with_reducible refine Below.drew ?_) | (with_reducible refine below_drewN ?_ _) | (with_reducible refine Below.setCell ?_ ?_ _) | (with_reducible refine Below.trans ?_ (Below.mono (by with_reducible assumption) ?_)) | (with_reducible exact Below.size (by with_reducible assumption)) | go_size)))
  rw [gpOut_ok hc]
  rw [hc] at HIS
  obtain ⟨f1, f2, f3, f4, f5, f6, f7, f8⟩ := (isGB_iff A B).1 hc
  obtain ⟨b, off, c, rfl, hA⟩ := tab_at h1 f1 f2 f5
  obtain ⟨b2, off2, c2, rfl, hB⟩ := tab_at h2 (by omega) f2 (fun i hi => f6 i (by omega))
  rw [f4] at hB HIS
  rw [f4]
  have hA : TabAt w b off A.length (gcols A) A := hA
  have hB : TabAt w b2 off2 A.length (gcols A) B := hB
  have HA := Lib.hid hA
  have HB := Lib.hid hB
  have HAE := Lib.hid f7
  have HBE := Lib.hid f8
  clear h1 h2 hA hB hc f4 f5 f6 f7 f8
  generalize hk : A.length = k at *
  generalize hl : gcols A = l at *
  clear hk hl
  obtain ⟨g, hg⟩ : ∃ g, g = gpG A B k := ⟨_, rfl⟩
  have HT := Lib.hid (fun (w' : World) (Bk Bg : Nat) (h : Below w.heap.size w w') d0 d1 d2 => hg ▸ gp_tells (w := w') (Bk := Bk) (Bg := Bg) (c := c) (c2 := c2) f3 (HA.out.below h) (HB.out.below h) HAE.out HBE.out d0 d1 d2)
  rw [← hg]
  obtain ⟨n, hn⟩ : ∃ n, n = k + l := ⟨_, rfl⟩
  have hkl : ((k : Int) + (l : Int)) = (n : Int) := by omega
  have hn1 : 1 ≤ n := by omega
  have hn5 : n ≤ 5 := by omega
  rw [← hn] at HT ⊢
  clear hn
  obtain ⟨r9, ro9, rd9, t9, _⟩ := HA.out w (Below.refl _ _) 0 (by omega)
  have hbl : b < w.heap.size := World.block_lt_of_cell? w _ t9
  have HT9 := Lib.hid t9
  clear hg t9 HA HB HAE HBE
  obtain ⟨W0, hW0⟩ : ∃ W0, W0 = (w.alloc (.cells #[.slice (some ⟨b, off, none⟩) k c, .slice (some ⟨b2, off2, none⟩) k c2] 43)).alloc (.cells #[.slice none 0 0, .slice none 0 0] 27) := ⟨_, rfl⟩
  have hg0 : Gc w W0 (.slice (some ⟨b, off, none⟩) k c) (.slice (some ⟨b2, off2, none⟩) k c2) := by rw [hW0]; exact gc_new _ _ _ _ _
  have HG0 := Lib.hid hg0
  have HW0 := Lib.hid hW0
  clear hg0 hW0
  go_enter Try.func33, Try.ntmps33
  go_wp2_with fail
  rw [← HW0.out]
  refine (HIS.out _ HG0.out.b).mono ?_; rintro e w1 ⟨rfl, hb1⟩
  have hg1 := HG0.out.next hb1
  have HG1 := Lib.hid hg1
  obtain ⟨hw1, e0, e1, _, _, _, hz1⟩ := hg1
  have t9 := (hw1.cell (p := ⟨b, off + 0, none⟩) hbl).trans HT9.out
  simp only [Nat.add_zero] at t9
  have hn1 : b ≠ w1.heap.size := by omega
  have hn2 : w.heap.size ≠ w1.heap.size := by omega
  clear hb1 HIS HW0 HG0
  go_wp2_with fail
  obtain ⟨W2, hW2⟩ : ∃ W2, W2 = w1.alloc (.cells #[.int .i64 k] 3) := ⟨_, rfl⟩
  have hb2 : Below w1.heap.size w1 W2 := by rw [hW2]; exact (Below.refl _ _).alloc (Nat.le_refl _) _
  have hzW : W2.heap.size = w1.heap.size + 1 := by rw [hW2]; simp
  have d0 : W2.cell? ⟨w1.heap.size, 0, none⟩ = some (.int .i64 k) := by rw [hW2]; simp
  have hg2 := HG1.out.next hb2
  have HG2 := Lib.hid hg2
  obtain ⟨hw2, d1, d2, _, _, _, hz2⟩ := hg2
  have t9 := (hb2.cell (p := ⟨b, off, none⟩) (World.block_lt_of_cell? w1 _ t9)).trans t9
  rw [← hW2]
  have HB2 := Lib.hid hb2
  clear hW2 hb2 e0 e1 hn1 hn2 hbl hw1
  have HTL := Lib.hid (fun (W' : World) (h : Below W2.heap.size W2 W') => squareRows_gam w1.heap.size w.heap.size n g W' hn1 hn5 (HT.out W' w1.heap.size w.heap.size (hw2.trans (h.mono hw2.size)) ((h.cell (p := ⟨w1.heap.size, 0, none⟩) (by show w1.heap.size < _; omega)).trans d0) ((h.cell (p := ⟨w.heap.size, 0, none⟩) (by show w.heap.size < _; omega)).trans d1) ((h.cell (p := ⟨w.heap.size, 1, none⟩) (by show w.heap.size < _; omega)).trans d2)))
  clear HT HT9 hz1 HG1
  go_wp2_with fail
  go_quiet (fail)
  go_wp2_with fail
  refine (HTL.out _ (by (repeat' (first | (with_reducible exact Below.refl _ _) | (with_reducible assumption) | (with_reducible refine Below.alloc ?_ ?_ _) | (with_reducible refine Below.drew ?_) | (with_reducible refine below_drewN ?_ _) | (with_reducible refine Below.setCell ?_ ?_ _) | (with_reducible refine Below.trans ?_ (Below.mono (by with_reducible assumption) ?_)) | (with_reducible exact Below.size (by with_reducible assumption)) | go_size)))).mono ?_; rintro e w3 ⟨us, rfl, hf3, hb3⟩
  rw [gp_drewN] at hf3 hb3 ⊢
  have hb23 : Below W2.heap.size W2 w3 := by (repeat' (first | (with_reducible exact Below.refl _ _) | (with_reducible assumption) | (with_reducible refine Below.alloc ?_ ?_ _) | (with_reducible refine Below.drew ?_) | (with_reducible refine below_drewN ?_ _) | (with_reducible refine Below.setCell ?_ ?_ _) | (with_reducible refine Below.trans ?_ (Below.mono (by with_reducible assumption) ?_)) | (with_reducible exact Below.size (by with_reducible assumption)) | go_size))
  have hgw := HG2.out.next hb23
  have HF3 := Lib.hid hf3
  obtain ⟨hw3, _, _, z0, z1, zf, hz3⟩ := hgw
  have HW3 := Lib.hid hw3
  have hzf0 := zf 0
  have hzf1 := zf 1
  have hz23 := hb23.size
  have HZ := Lib.hid (show w.heap.size + 2 ≤ W2.heap.size by omega)
  clear hb3 hb23 hf3 HTL HG2 d0 d1 d2 t9 zf HB2 hw2 hzW
  go_wp2_with fail
  refine (repeatI_any n w3.heap.size 1 1 _ hn1 hn5 (by simp) (by simp)).mono ?_; rintro e w5 ⟨rfl, hq, hb5⟩
  rw [show (w3.alloc (.cells #[.int .i64 1] 2)).heap.size = w3.heap.size + 1 by simp] at hq hb5 ⊢
  have hal : Below w3.heap.size w3 (w3.alloc (.cells #[.int .i64 1] 2)) := (Below.refl _ _).alloc (Nat.le_refl _) _
  have hb15 : Below w3.heap.size w3 w5 := hal.trans (hb5.mono (by omega))
  have hrows := HF3.out.below hb15
  obtain ⟨gq, cq, hvq, hq1, hq2, _⟩ := id hq
  have hP : FreshP (w.heap.size + 2) w5 (.slice (some ⟨W2.heap.size, 0, none⟩) n n) (.slice (some ⟨w3.heap.size + 1, 0, none⟩) n n) (tab n g) (List.replicate n 1) us := by
    refine ⟨hrows.mono HZ.out, hq.mono (by omega), fun b hb => ?_⟩
    simp [Value.ownBlock] at hb
    subst hb
    refine ⟨by simp [Value.ownBlock]; omega, fun i hi c => ?_⟩
    have := HF3.out.rows i _ hi c
    omega
  have ht : Tch [w.heap.size + 1] w5 ((w5.setCell ⟨w.heap.size + 1, 0, none⟩ (.slice (some ⟨W2.heap.size, 0, none⟩) n n)).setCell ⟨w.heap.size + 1, 1, none⟩ (.slice (some ⟨w3.heap.size + 1, 0, none⟩) n n)) := ((Tch.refl _ _).setCell (by simp) _).setCell (by simp) _
  have hP2 := (hP.tch ht (fun b hb => by simp at hb; omega)).mono (C := w.heap.size) (by omega)
  have HP2 := Lib.hid hP2.ownP
  have HBW := Lib.hid (((HW3.out.trans (hb15.mono HW3.out.size)).setCell (p := ⟨w.heap.size + 1, 0, none⟩) (by show w.heap.size ≤ w.heap.size + 1; omega) (.slice (some ⟨W2.heap.size, 0, none⟩) n n)).setCell (p := ⟨w.heap.size + 1, 1, none⟩) (by show w.heap.size ≤ w.heap.size + 1; omega) (.slice (some ⟨w3.heap.size + 1, 0, none⟩) n n))
  have z0 := (hb15.cell (p := ⟨w.heap.size + 1, 0, none⟩) (by show w.heap.size + 1 < _; omega)).trans z0
  have z1 := (hb15.cell (p := ⟨w.heap.size + 1, 1, none⟩) (by show w.heap.size + 1 < _; omega)).trans z1
  have zf0 := (hb15.frozen (p := ⟨w.heap.size + 1, 0, none⟩) (by show w.heap.size + 1 < _; omega)).trans hzf0
  have zf1 := (hb15.frozen (p := ⟨w.heap.size + 1, 1, none⟩) (by show w.heap.size + 1 < _; omega)).trans hzf1
  clear hP hP2 ht hrows hq hvq hb5 hb15 hal hzf0 hzf1 hw3
  go_wp2_with fail
  refine bodyPost_ret (v := .tuple #[.agg #[.slice (some ⟨W2.heap.size, 0, none⟩) n n, .slice (some ⟨w3.heap.size + 1, 0, none⟩) n n], .int .i64 0]) (by simp [*, results, Try.results33, go_sem]) rfl ?_
  exact ⟨_, _, us, rfl, HP2.out, HBW.out⟩

/-- The row i of the model while it is written: up to j. -/
def grow (g : Nat → Nat → Int) (n i j : Nat) : List Int := (List.range n).map fun b => if b < j then g i b else 0
theorem grow_length (g : Nat → Nat → Int) (n i j : Nat) : (grow g n i j).length = n := by simp [grow]
theorem grow_start (g : Nat → Nat → Int) (n i : Nat) : List.replicate n (0 : Int) = grow g n i 0 := by
  apply List.ext_getElem (by simp [grow])
  intro j h1 h2
  simp [grow]
theorem grow_set (g : Nat → Nat → Int) (n i j : Nat) : (grow g n i j).set j (g i j) = grow g n i (j + 1) := by
  apply List.ext_getElem (by simp [grow])
  intro b h1 h2
  simp only [List.getElem_set, grow, List.getElem_map, List.getElem_range]
  by_cases e : j = b
  · subst e
    rw [if_pos rfl, if_pos (by omega)]
  · rw [if_neg e]
    by_cases e2 : b < j
    · rw [if_pos e2, if_pos (by omega)]
    · rw [if_neg e2, if_neg (by omega)]
theorem grow_skip (g : Nat → Nat → Int) (n i j : Nat) (h : g i j = 0) : grow g n i j = grow g n i (j + 1) := by
  unfold grow
  apply List.map_congr_left
  intro b _
  by_cases e : b = j
  · subst e
    rw [if_neg (by omega), if_pos (by omega), h]
  · by_cases e2 : b < j
    · rw [if_pos e2, if_pos (by omega)]
    · rw [if_neg e2, if_neg (by omega)]
theorem grow_end (g : Nat → Nat → Int) (n i : Nat) : grow g n i n = (List.range n).map (g i) := by
  unfold grow
  apply List.map_congr_left
  intro b hb
  rw [if_pos (by simpa using hb)]
def grows (g : Nat → Nat → Int) (n k : Nat) : List (List Int) := (List.range k).map fun a => (List.range n).map (g a)
theorem grows_length (g : Nat → Nat → Int) (n k : Nat) : (grows g n k).length = k := by simp [grows]
theorem grows_snoc (g : Nat → Nat → Int) (n k : Nat) : grows g n (k + 1) = grows g n k ++ [(List.range n).map (g k)] := by unfold grows; rw [List.range_succ, List.map_append]; rfl
theorem rep1_snoc (k : Nat) : List.replicate (k + 1) (1 : Int) = List.replicate k 1 ++ [1] := by rw [List.replicate_succ']

set_option maxRecDepth 100000 in
set_option maxHeartbeats 8000000 in
theorem l07Problem_any (m q : Value) (A B : List (List Int)) (w : World) (h1 : PM.Rows w m A) (h2 : PM.Rows w q B) (hc : isGB A B = true) :
    Calls Try.prog 79 #[.agg #[m, q]] w fun e w' => ∃ (av : Option Addr) (cv : Nat) (aq : Option Addr) (cq : Nat) (us : List Value), e = .returned (.agg #[.slice av (A.length + gcols A) cv, .slice aq (A.length + gcols A) cq]) ∧ OwnP w.heap.size w' (.slice av (A.length + gcols A) cv) (.slice aq (A.length + gcols A) cq) (tab (A.length + gcols A) (gpG A B A.length)) (List.replicate (A.length + gcols A) 1) us ∧ Below w.heap.size w w' := by
  obtain ⟨f1, f2, f3, f4, f5, f6, f7, f8⟩ := (isGB_iff A B).1 hc
  obtain ⟨b, off, c, rfl, hA⟩ := tab_at h1 f1 f2 f5
  obtain ⟨b2, off2, c2, rfl, hB⟩ := tab_at h2 (by omega) f2 (fun i hi => f6 i (by omega))
  rw [f4] at hB ⊢
  have hA : TabAt w b off A.length (gcols A) A := hA
  have hB : TabAt w b2 off2 A.length (gcols A) B := hB
  have HTA := Lib.hid hA
  have HTB := Lib.hid hB
  have HAE := Lib.hid f7
  have HBE := Lib.hid f8
  clear h1 h2 hA hB hc f4 f5 f6 f7 f8
  generalize hk : A.length = k at *
  generalize hl : gcols A = l at *
  clear hk hl
  obtain ⟨g, hg⟩ : ∃ g, g = gpG A B k := ⟨_, rfl⟩
  have HG1 := Lib.hid (show ∀ i j, i < k → k ≤ j → g i j = - gE A i (j - k) from fun i j a b => by rw [hg]; exact gpG_one a b)
  have HG2 := Lib.hid (show ∀ i j, k ≤ i → j < k → g i j = - gE B j (i - k) from fun i j a b => by rw [hg]; exact gpG_two a b)
  have HG3 := Lib.hid (show ∀ i j, ¬ (i < k ∧ k ≤ j) → ¬ (k ≤ i ∧ j < k) → g i j = 0 from fun i j a b => by rw [hg]; exact gpG_no a b)
  rw [← hg]
  clear hg
  obtain ⟨n, hn⟩ : ∃ n, n = k + l := ⟨_, rfl⟩
  have hkl : ((k : Int) + (l : Int)) = (n : Int) := by omega
  have hn1 : 1 ≤ n := by omega
  have hn5 : n ≤ 5 := by omega
  have HN := Lib.hid hn
  rw [← hn]
  clear hn
  obtain ⟨r9, ro9, rd9, t9, _⟩ := HTA.out w (Below.refl _ _) 0 (by omega)
  have hbl : b < w.heap.size := World.block_lt_of_cell? w _ t9
  simp only [Nat.add_zero] at t9
  have hmk := run_make_row' (P := Try.prog) 23 2 (.int .i64 0) 8 Try.underlying23 info_int rfl .i64 .i64 n (by omega) (by omega)
  have HZ := Lib.hid (fun w => zeros_fresh w n (by unfold maxLen; omega))
  obtain ⟨j0, hj, hyy0, hyy1, hyy2⟩ := info_parts info_int
  obtain ⟨i0, hi, hxx0, hxx1, hxx2⟩ := info_parts info_ints
  have hnb0 : b ≠ w.heap.size := by omega
  have hnb1 : b ≠ w.heap.size + 1 := by omega
  obtain ⟨W0, hW0⟩ : ∃ W0, W0 = (w.alloc (.cells #[.slice (some ⟨b, off, none⟩) k c, .slice (some ⟨b2, off2, none⟩) k c2] 43)).alloc (.cells #[.slice none 0 0, .slice none 0 0] 27) := ⟨_, rfl⟩
  have hg0 : Gc w W0 (.slice (some ⟨b, off, none⟩) k c) (.slice (some ⟨b2, off2, none⟩) k c2) := by rw [hW0]; exact gc_new _ _ _ _ _
  have HG0 := Lib.hid hg0
  have hs0 : W0.heap.size = w.heap.size + 2 := by rw [hW0]; simp
  have HW0 := Lib.hid hW0
  obtain ⟨hw0, e0, e1, _, _, _, hz0⟩ := hg0
  have t9 := (hw0.cell (p := ⟨b, off, none⟩) hbl).trans t9
  clear hW0 hw0
  go_enter Try.func79, Try.ntmps79
  go_wp2_with fail
  rw [← HW0.out]
  go_quiet (fail)
  obtain ⟨W1, hW1⟩ : ∃ W1, W1 = W0.drewN nq := ⟨_, rfl⟩
  have hb01 : Below W0.heap.size W0 W1 := by rw [hW1]; exact below_drewN (Below.refl _ _) _
  have hs1 : W1.heap.size = w.heap.size + 2 := by rw [hW1]; exact hs0
  rw [← hW1]
  have hg1 := HG0.out.next hb01
  have HGC := Lib.hid hg1
  have HPG0 := Lib.hid (pgG_start W1)
  have hbs : Below W1.heap.size W1 (((W1.alloc (.cells #[] 23)).alloc (.cells #[] 2)).alloc (.cells #[.slice (some ⟨W1.heap.size, 0, none⟩) 0 0, .slice (some ⟨W1.heap.size + 1, 0, none⟩) 0 0] 27)) := (((Below.refl _ _).alloc (by omega) _).alloc (by simp) _).alloc (by simp; omega) _
  have HBS := Lib.hid hbs
  have HS1 := Lib.hid hs1
  clear hb01 hW1 hg1 hbs hs0 HW0 HG0 t9 e0 e1 hz0 hnb0 hnb1 hs1
  go_wp2_with fail
  obtain ⟨X, hX⟩ : ∃ X, X = W1.heap.size := ⟨_, rfl⟩
  rw [← hX] at HPG0 HBS HS1 ⊢
  have HX := Lib.hid hX
  clear hX
  go_loopw [6, 7, 8] (fun i _ _ wr => ∃ (a : Nat) (v q : Value) (us : List Value), a ≤ n ∧ i = .int .i64 a ∧ PgG X wr (X + 1 + 1) v q (grows g n a) (List.replicate a 1) us ∧ Below X W1 wr) (fun i _ _ _ => n - (intOf i).toNat)
  case atStart => exact ⟨0, _, _, [], Nat.zero_le _, rfl, HPG0.out, HBS.out⟩
  case round =>
    obtain ⟨a, v, q, us, ha, rfl, hP, hB⟩ := hrel
    obtain ⟨Wr, rfl⟩ : ∃ Wr, Wr = wr := ⟨_, rfl⟩
    have HPG := Lib.hid hP
    have HB := Lib.hid hB
    by_cases hlt : a < n
    · clear hP hB
      have HZ1 := Lib.hid (HZ.out Wr)
      rw [grow_start g n a] at HZ1
      have hkm : (a : Int) < n := by omega
      have hXr : X ≤ Wr.heap.size := by have := HB.out.size; have := HX.out; omega
      have HXR := Lib.hid hXr
      clear hXr
      go_wp2_with fail
      go_loopw [8] (fun c wr => ∃ j : Nat, j ≤ n ∧ c = .int .i64 j ∧ FreshI Wr.heap.size wr (.slice (some ⟨Wr.heap.size, 0, none⟩) n n) (grow g n a j) ∧ Below Wr.heap.size Wr wr) (fun c _ => n - (intOf c).toNat)
      case atStart => exact ⟨0, Nat.zero_le _, rfl, HZ1.out, by (repeat' (first | (with_reducible exact Below.refl _ _) | (with_reducible assumption) | (with_reducible refine Below.alloc ?_ ?_ _) | (with_reducible refine Below.drew ?_) | (with_reducible refine below_drewN ?_ _) | (with_reducible refine Below.setCell ?_ ?_ _) | (with_reducible refine Below.trans ?_ (Below.mono (by with_reducible assumption) ?_)) | (with_reducible exact Below.size (by with_reducible assumption)) | go_size))⟩
      case round =>
        obtain ⟨j, hjm, rfl, hF, hBi⟩ := hrel
        by_cases hlt2 : j < n
        · have hoo := freshI_own hF
          have c0 := own_cellN hoo (grow_length _ _ _ _).symm hlt2
          have c1 := own_frozenN hoo (grow_length _ _ _ _).symm j
          have hset := hF.set j (g a j)
          rw [grow_set] at hset
          have HSE := Lib.hid hset
          have HB2 := Lib.hid (hBi.setCell (p := ⟨Wr.heap.size, j, none⟩) (Nat.le_refl _) (.int .i64 (g a j)))
          have hall := HB.out.trans (hBi.mono HXR.out)
          rw [HX.out] at hall
          have hgc := HGC.out.next hall
          have HSK := Lib.hid (fun (h : g a j = 0) => (grow_skip g n a j h ▸ hF : FreshI Wr.heap.size wr (.slice (some ⟨Wr.heap.size, 0, none⟩) n n) (grow g n a (j + 1))))
          have HBI := Lib.hid hBi
          obtain ⟨hgw, d0, d1, _, _, _, _⟩ := hgc
          have hNN := HN.out
          by_cases q1 : a < k ∧ k ≤ j
          · obtain ⟨q1, q2⟩ := q1
            have hgx := HG1.out a j q1 q2
            obtain ⟨r, o, d, t1, t2⟩ := HTA.out _ hgw a q1
            have t3 := t2 (j - k) (by omega)
            have hx := HAE.out a (j - k) q1 (by omega)
            have hjl : j - k < l := by omega
            have g1 : (a : Int) < k := by omega
            have g2 : (j : Int) ≥ k := by omega
            rw [hgx] at HSE HB2
            clear t2 hF hBi hset hoo hgw hgx HSK HBI hNN hall
            generalize (grow g n a j).getD j 0 = y at *
            generalize gE A a (j - k) = x at *
            go_wp2_with fail
            go_roundw
            case rel => exact ⟨j + 1, by omega, by go_num, HSE.out, HB2.out⟩
            case measure => simp [intOf]; omega
          · by_cases q2 : k ≤ a ∧ j < k
            · obtain ⟨q2, q3⟩ := q2
              have hgx := HG2.out a j q2 q3
              obtain ⟨r, o, d, t1, t2⟩ := HTB.out _ hgw j q3
              have t3 := t2 (a - k) (by omega)
              have hx := HBE.out j (a - k) q3 (by omega)
              have hjl : a - k < l := by omega
              have g1 : ¬ (a : Int) < k := by omega
              have g2 : (a : Int) ≥ k := by omega
              have g3 : (j : Int) < k := by omega
              rw [hgx] at HSE HB2
              clear t2 hF hBi hset hoo hgw hgx HSK HBI hNN hall q1
              generalize (grow g n a j).getD j 0 = y at *
              generalize gE B j (a - k) = x at *
              go_wp2_with fail
              go_roundw
              case rel => exact ⟨j + 1, by omega, by go_num, HSE.out, HB2.out⟩
              case measure => simp [intOf]; omega
            · have hgx := HG3.out a j q1 q2
              have HF2 := Lib.hid (HSK.out hgx)
              clear hF hBi hset hoo hgw hgx HSK hNN hall HSE HB2
              clear c0 c1 d0 d1
              by_cases q3 : a < k
              · have g2 : ¬ (j : Int) ≥ k := by omega
                have g3 : (a : Int) < k := by omega
                have g4 : ¬ (a : Int) ≥ k := by omega
                clear q1 q2
                go_wp2_with fail
                go_roundw
                case rel => exact ⟨j + 1, by omega, by go_num, HF2.out, HBI.out⟩
                case measure => simp [intOf]; omega
              · have g2 : ¬ (j : Int) < k := by omega
                have g3 : ¬ (a : Int) < k := by omega
                have g4 : (a : Int) ≥ k := by omega
                clear q1 q2
                go_wp2_with fail
                go_roundw
                case rel => exact ⟨j + 1, by omega, by go_num, HF2.out, HBI.out⟩
                case measure => simp [intOf]; omega
        · obtain rfl : j = n := by omega
          rw [grow_end] at hF
          have HROW := Lib.hid hF
          have HWI := Lib.hid hBi
          have HSZ := HXR
          have hzW := hBi.size
          have n0 := (hBi.cell (p := ⟨X + 1 + 1, 0, none⟩) HPG.out.lt).trans HPG.out.c1
          have n1 := (hBi.cell (p := ⟨X + 1 + 1, 1, none⟩) HPG.out.lt).trans HPG.out.c2
          clear hF hBi
          go_wp2_with (first | (at_builtin; refine wpList_append_lies _ rfl _ _ 22 rfl 0 23 i0 (.slice none 0 0) 1 24 Try.underlying22 hi hxx0 hxx1 hxx2 rfl (by decide) v a us rfl (HPG.out.ownV (HWI.out.alloc HWI.out.size _) (grows_length g j a)) _ 1 _ [.slice (some ⟨Wr.heap.size, 0, none⟩) j j] rfl rfl (cell_one_new _ _ _) (by simp [Value.oneCell']) (by decide) (by unfold maxLen; omega) (by omega) (Nat.zero_le _) _ rfl ?_; intro gg cap w4 hown hgrow hat hgl; have hb3 := HWI.out.alloc HWI.out.size (.cells #[.slice (some ⟨Wr.heap.size, 0, none⟩) j j] 23); have hP5 := HPG.out.rowF hb3 (HROW.out.below ((Below.refl _ _).alloc (Nat.le_refl _) _)) (Nat.le_refl _) (grows_length g j a) hown hgrow hat; obtain ⟨_, fc, ff⟩ := HPG.out.far hb3 hgrow HPG.out.vN; have e0 := (fc 0).trans HPG.out.c1; have e1 := (fc 1).trans HPG.out.c2; have f0 := ff 0; have f1 := ff 1; have hlow := ((HB.out.trans (hb3.mono HSZ.out)).grown hgrow (Nat.le_trans HSZ.out hb3.size) (fun b hb => (HPG.out.rows.mb b hb).1)).setCell (p := ⟨X + 1 + 1, 0, none⟩) (show X ≤ X + 1 + 1 by omega) (.slice (some ⟨gg, 0, none⟩) (a + 1) cap); rw [← grows_snoc] at hP5; have HP5 := Lib.hid hP5; have HLOW := Lib.hid hlow; have HS5 : Hid (X ≤ (w4.setCell ⟨X + 1 + 1, 0, none⟩ (.slice (some ⟨gg, 0, none⟩) (a + 1) cap)).heap.size) := Lib.hid (Nat.le_of_lt (Nat.lt_of_le_of_lt (by omega) HP5.out.lt)); clear hP5 hlow fc ff hown hgrow hat hgl hb3) | (at_builtin; (refine wpList_append_lies _ rfl _ _ 23 rfl 0 2 j0 (.int .i64 0) 1 8 Try.underlying23 hj hyy0 hyy1 hyy2 rfl (by decide) q a _ rfl (HP5.out.ownQ ((Below.refl _ _).alloc (Nat.le_refl _) _) (by simp)) _ 1 _ [.int .i64 1] rfl rfl (cell_one_at (by simp)) (by simp [Value.oneCell']) (by decide) (by unfold maxLen; omega) (by omega) (Nat.zero_le _) _ rfl ?_; intro g2 cap2 w6 hown hgrow hat hgl; have hb3 := (Below.refl ((w4.setCell ⟨X + 1 + 1, 0, none⟩ (.slice (some ⟨gg, 0, none⟩) (a + 1) cap))).heap.size (w4.setCell ⟨X + 1 + 1, 0, none⟩ (.slice (some ⟨gg, 0, none⟩) (a + 1) cap))).alloc (Nat.le_refl _) (.cells #[.int .i64 1] 2); have hP7 := HP5.out.numF hb3 (by simp) hown hgrow hat hgl; obtain ⟨_, fc, ff⟩ := HP5.out.far hb3 hgrow HP5.out.qN; have e3 := (fc 1).trans HP5.out.c2; have f3 := ff 1; have hlow := ((HLOW.out.trans (hb3.mono HS5.out)).grown hgrow (Nat.le_trans HS5.out hb3.size) (fun b hb => (HP5.out.qb b hb).1)).setCell (p := ⟨X + 1 + 1, 1, none⟩) (show X ≤ X + 1 + 1 by omega) (.slice (some ⟨g2, 0, none⟩) (a + 1) cap2); rw [← rep1_snoc] at hP7; have HP7 := Lib.hid hP7; have HLOW7 := Lib.hid hlow; clear hP7 hlow fc ff hown hgrow hat hgl hb3)))
          go_roundw
          case rel => exact ⟨a + 1, _, _, _, by omega, by go_num, HP7.out, HLOW7.out⟩
          case measure => simp [intOf]; omega
    · obtain rfl : a = n := by omega
      have hz := hP.lt
      have hall := hB
      rw [HX.out] at hall
      have hgc := HGC.out.next hall
      obtain ⟨hgw, d0, d1, z0, z1, zf, hz3⟩ := hgc
      have zf0 := zf 0
      have zf1 := zf 1
      have n0 := hP.c1
      have n1 := hP.c2
      have hmr : grows g a a = tab a g := rfl
      rw [hmr] at hP
      obtain ⟨av, cv, rfl⟩ : ∃ b c, v = .slice b a c := by
        rcases hP.rows.rows.top.2 with ⟨rfl, hn⟩ | ⟨_, cap, cur, rfl, _⟩
        · rw [tab_length] at hn
          omega
        · exact ⟨_, cap, by rw [tab_length]⟩
      obtain ⟨aq, cq, hq⟩ := OwnI.shape hP.side
      rw [List.length_replicate] at hq
      subst hq
      have HP2 := Lib.hid hP
      have HBW := Lib.hid ((hgw.setCell (p := ⟨w.heap.size + 1, 0, none⟩) (by show w.heap.size ≤ w.heap.size + 1; omega) (.slice av a cv)).setCell (p := ⟨w.heap.size + 1, 1, none⟩) (by show w.heap.size ≤ w.heap.size + 1; omega) (.slice aq a cq))
      have HXZ := HS1
      clear hP hB hmr HB HPG d0 d1 zf hall hgw HGC HX
      go_wp2_with fail
      refine bodyPost_ret (v := .agg #[.slice av a cv, .slice aq a cq]) (by simp [*, results, Try.results79, go_sem]) rfl ?_
      have hX2 := HXZ.out
      have hk2 : ∀ b, b ≠ w.heap.size + 1 → ((Wr.setCell ⟨w.heap.size + 1, 0, none⟩ (.slice av a cv)).setCell ⟨w.heap.size + 1, 1, none⟩ (.slice aq a cq)).heap[b]? = Wr.heap[b]? := fun b hb => (Below.heap_setCell _ ⟨w.heap.size + 1, 1, none⟩ _ _ hb).trans (Below.heap_setCell _ ⟨w.heap.size + 1, 0, none⟩ _ _ hb)
      have hRs := HP2.out.rows.keepB (W' := (Wr.setCell ⟨w.heap.size + 1, 0, none⟩ (.slice av a cv)).setCell ⟨w.heap.size + 1, 1, none⟩ (.slice aq a cq)) (by simp) (fun b hb => hk2 b (by have := (HP2.out.rows.mb b hb).1; omega)) (fun i b hi hb => hk2 b (by have := (HP2.out.rows.ub i b hi hb).1; omega))
      refine ⟨_, _, _, _, us, rfl, ⟨hRs.rows, own_keep HP2.out.side (fun b hb => hk2 b (by have := (HP2.out.qb b hb).1; omega)), fun b hb => ?_, fun b hb => ?_, fun i b hi hb => ?_, fun b hb => ⟨own_apart HP2.out.side HP2.out.rows.rows.top (by decide) hb, fun i hi c => HP2.out.qu i b hi c hb⟩⟩, HBW.out⟩
      · have := hRs.mb b hb; omega
      · have := HP2.out.qb b hb; simp; omega
      · have := hRs.ub i b hi hb; omega

set_option maxRecDepth 100000 in
set_option maxHeartbeats 4000000 in
theorem specGameProblem_any (m q : Value) (A B : List (List Int)) (w : World) (h1 : PM.Rows w m A) (h2 : PM.Rows w q B) :
    Calls Try.prog 32 #[.agg #[m, q]] w (OutP w (gpOut A B)) := by
  have HIS := Lib.hid (fun (w' : World) (h : Below w.heap.size w w') => l07Is_any m q A B w' (h1.below h) (h2.below h))
  have HGP := Lib.hid (fun (hc : isGB A B = true) (w' : World) (h : Below w.heap.size w w') => l07Problem_any m q A B w' (h1.below h) (h2.below h) hc)
  obtain ⟨a1, c1, rfl, _⟩ := h1
  obtain ⟨a2, c2, rfl, _⟩ := h2
  obtain ⟨W0, hW0⟩ : ∃ W0, W0 = (w.alloc (.cells #[.slice a1 A.length c1, .slice a2 B.length c2] 43)).alloc (.cells #[.slice none 0 0, .slice none 0 0] 27) := ⟨_, rfl⟩
  have hg0 : Gc w W0 (.slice a1 A.length c1) (.slice a2 B.length c2) := by rw [hW0]; exact gc_new _ _ _ _ _
  have HG0 := Lib.hid hg0
  have HW0 := Lib.hid hW0
  clear hg0 hW0
  cases hc : isGB A B
  · rw [gpOut_no hc]
    rw [hc] at HIS
    clear hc HGP
    go_enter Try.func32, Try.ntmps32
    go_wp2_with fail
    rw [← HW0.out]
    refine (HIS.out _ HG0.out.b).mono ?_; rintro e w1 ⟨rfl, hb1⟩
    obtain ⟨hw1, k0, k1, z0, z1, zf, hz1⟩ := HG0.out.next hb1
    clear hb1
    go_wp2_with fail
    refine bodyPost_ret (v := .tuple #[.agg #[.slice none 0 0, .slice none 0 0], .int .i64 1]) (by simp [*, results, Try.results32, go_sem]) rfl ?_
    exact outP_err (by (repeat' (first | (with_reducible exact Below.refl _ _) | (with_reducible assumption) | (with_reducible refine Below.alloc ?_ ?_ _) | (with_reducible refine Below.drew ?_) | (with_reducible refine below_drewN ?_ _) | (with_reducible refine Below.setCell ?_ ?_ _) | (with_reducible refine Below.trans ?_ (Below.mono (by with_reducible assumption) ?_)) | (with_reducible exact Below.size (by with_reducible assumption)) | go_size)))
  rw [gpOut_ok hc]
  have HGP := Lib.hid (HGP.out hc)
  generalize gpG A B A.length = g at *
  generalize A.length + gcols A = n at *
  rw [hc] at HIS
  clear hc
  go_enter Try.func32, Try.ntmps32
  go_wp2_with fail
  rw [← HW0.out]
  refine (HIS.out _ HG0.out.b).mono ?_; rintro e w1 ⟨rfl, hb1⟩
  have hg1 := HG0.out.next hb1
  have HG1 := Lib.hid hg1
  obtain ⟨hw1, k0, k1, _, _, _, hz1⟩ := hg1
  clear hb1
  go_wp2_with fail
  refine (HGP.out _ hw1).mono ?_; rintro e w2 ⟨av, cv, aq, cq, us, rfl, ho, hb2⟩
  have hg2 := HG1.out.next hb2
  obtain ⟨hw2, _, _, z0, z1, zf, hz2⟩ := hg2
  have zf0 := zf 0
  have zf1 := zf 1
  have HO := Lib.hid ho
  have HBW := Lib.hid ((hw2.setCell (p := ⟨w.heap.size + 1, 0, none⟩) (by show w.heap.size ≤ w.heap.size + 1; omega) (.slice av n cv)).setCell (p := ⟨w.heap.size + 1, 1, none⟩) (by show w.heap.size ≤ w.heap.size + 1; omega) (.slice aq n cq))
  have HZ1 := Lib.hid hz1
  clear ho hb2 hw2 zf hw1 HG0 HG1
  go_wp2_with fail
  refine bodyPost_ret (v := .tuple #[.agg #[.slice av n cv, .slice aq n cq], .int .i64 0]) (by simp [*, results, Try.results32, go_sem]) rfl ?_
  have hk2 : ∀ b, b ≠ w.heap.size + 1 → ((w2.setCell ⟨w.heap.size + 1, 0, none⟩ (.slice av n cv)).setCell ⟨w.heap.size + 1, 1, none⟩ (.slice aq n cq)).heap[b]? = w2.heap[b]? := fun b hb => (Below.heap_setCell _ ⟨w.heap.size + 1, 1, none⟩ _ _ hb).trans (Below.heap_setCell _ ⟨w.heap.size + 1, 0, none⟩ _ _ hb)
  obtain ⟨o1, o2, o3, o4, o5, o6⟩ := HO.out
  have hzz := HZ1.out
  exact ⟨_, _, us, rfl, ⟨ownR_keep o1 (fun b hb => hk2 b (by have := (o3 b hb).1; omega)) (fun i b hi hb => hk2 b (by have := (o5 i b hi hb).1; omega)), own_keep o2 (fun b hb => hk2 b (by have := (o4 b hb).1; omega)), fun b hb => by have := o3 b hb; simp; omega, fun b hb => by have := o4 b hb; simp; omega, fun i b hi hb => by have := o5 i b hi hb; simp; omega, o6⟩, HBW.out⟩
end Go.Proofs.Ytkdgnegnndedaaa.PW
