/-
  ProgramProblem: the numbers of a program's problem, and what the program's closure tells of them.
-/
import Derived.Test.YtgncaploccbfnaaWIp
import Derived.Test.YtgncaploccbfnaaQSq
import Derived.Test.YtgncaploccbfnaaPProb
namespace Go.Proofs.Ytgncaploccbfnaa.PW
open Go.RowKit Go.Proofs.Ytgncaploccbfnaa
open Go.Proofs.Ytgncaploccbfnaa.PM
attribute [local go_sem] Oper.semAt_some

/-- The numbers of the problem of a program with n numbers. -/
def ppG (D A : List (List Int)) (n i j : Nat) : Int := if i < n then (if j < n then wE D i j else - wE A (j - n) i) else if j < n then wE A (i - n) j else 0
def ppQ (C B : List Int) : List Int := C ++ B.map fun x => -x
def ppOut (D : List (List Int)) (C : List Int) (A : List (List Int)) (B : List Int) : List (List Int) × List Int × Int :=
  if isWB D C A B = true then (tab (C.length + B.length) (ppG D A C.length), ppQ C B, 0) else ([], [], 1)
theorem ppOut_no {D : List (List Int)} {C : List Int} {A : List (List Int)} {B : List Int} (h : isWB D C A B = false) : ppOut D C A B = ([], [], 1) := by unfold ppOut; rw [if_neg (by rw [h]; exact Bool.noConfusion)]
theorem ppOut_ok {D : List (List Int)} {C : List Int} {A : List (List Int)} {B : List Int} (h : isWB D C A B = true) : ppOut D C A B = (tab (C.length + B.length) (ppG D A C.length), ppQ C B, 0) := by unfold ppOut; rw [if_pos h]
theorem ppG_bd {D : List (List Int)} {C : List Int} {A : List (List Int)} {B : List Int} (h : IsW D C A B) {i j : Nat} (hi : i < C.length + B.length) (hj : j < C.length + B.length) : -20 ≤ ppG D A C.length i j ∧ ppG D A C.length i j ≤ 20 := by
  unfold ppG
  split
  · split
    · exact h.dk i (by omega) j (by omega)
    · have := h.ak (j - C.length) (by omega) i (by omega)
      omega
  · split
    · exact h.ak (i - C.length) (by omega) j (by omega)
    · omega
theorem fine_pp (D : List (List Int)) (C : List Int) (A : List (List Int)) (B : List Int) : Fine (ppOut D C A B) := by
  cases hc : isWB D C A B
  · rw [ppOut_no hc]; exact fine_nil 1
  · rw [ppOut_ok hc]
    have h := (isWB_is D C A B).1 hc
    refine ⟨fun j hj x hx => ?_, fun x hx => ?_, tab_tot _ _ h.n5, ?_⟩
    · dsimp only at hj hx
      rw [tab_length] at hj
      rw [tab_row _ _ _ hj] at hx
      obtain ⟨b, hb, rfl⟩ := List.mem_map.1 hx
      have := ppG_bd h hj (by simpa using hb : b < C.length + B.length)
      unfold I64
      omega
    · dsimp only [ppQ] at hx
      rcases List.mem_append.1 hx with hx | hx
      · obtain ⟨i, hi, rfl⟩ := List.getElem_of_mem hx
        have := h.c i hi
        rw [List.getD_eq_getElem?_getD, List.getElem?_eq_getElem hi, Option.getD_some] at this
        unfold I64
        omega
      · obtain ⟨y, hy, rfl⟩ := List.mem_map.1 hx
        obtain ⟨i, hi, rfl⟩ := List.getElem_of_mem hy
        have := h.b i hi
        rw [List.getD_eq_getElem?_getD, List.getElem?_eq_getElem hi, Option.getD_some] at this
        unfold I64
        omega
    · show (ppQ C B).length ≤ _
      unfold ppQ
      rw [List.length_append, List.length_map]
      have := h.n5
      omega

/-- What a function value gives that closes over two variables. -/
def Tells2 (G Bc Bd n : Nat) (g : Nat → Nat → Int) (w : World) : Prop :=
  ∀ (w' : World) (i k : Nat), Below w.heap.size w w' → i < n → k < n → Calls Try.prog G #[.int .i64 i, .int .i64 k, .pointer (some ⟨Bc, 0, none⟩), .pointer (some ⟨Bd, 0, none⟩)] w' fun e w'' => e = .returned (.int .i64 (g i k)) ∧ Below w'.heap.size w' w''
set_option maxRecDepth 100000 in
set_option maxHeartbeats 2000000 in
theorem squareRows_pp (Bc Bd n : Nat) (g : Nat → Nat → Int) (w : World) (hn1 : 1 ≤ n) (hn5 : n ≤ 5) (hcl : Tells2 98 Bc Bd n g w) :
    Calls Try.prog 97 #[.int .i64 n, .func (.func 98) #[] #[.pointer (some ⟨Bc, 0, none⟩), .pointer (some ⟨Bd, 0, none⟩)]] w fun e w' => ∃ us, e = .returned (.slice (some ⟨w.heap.size, 0, none⟩) n n) ∧ FreshR w.heap.size w' (.slice (some ⟨w.heap.size, 0, none⟩) n n) (tab n g) us ∧ Below w.heap.size w w' := by
  have hmk := run_make_row' (P := Try.prog) 22 23 (.slice none 0 0) 24 Try.underlying22 info_ints rfl .i64 .i64 n (by omega) (by omega)
  have hmk2 := run_make_row' (P := Try.prog) 23 2 (.int .i64 0) 8 Try.underlying23 info_int rfl .i64 .i64 n (by omega) (by omega)
  have HCL := Lib.hid hcl
  clear hcl
  have hS0 : Sq w (w.alloc (.cells (madeCells #[.slice none 0 0] n) 23)) n (outTo n g 0) (List.replicate n (.slice none 0 0)) := ⟨by rw [outTo_zero]; exact freshR_made w n (by unfold maxLen; omega), (Below.refl _ _).alloc (Nat.le_refl _) _⟩
  have HS0 := Lib.hid hS0
  clear hS0
  go_enter Try.func97, Try.ntmps97
  go_wp2_with fail
  go_loopw [6, 7, 12, 25] (fun _ _ c _ wr => ∃ (i : Nat) (us : List Value), i ≤ n ∧ c = .int .i64 i ∧ Sq w wr n (outTo n g i) us) (fun _ _ c _ _ => n - (intOf c).toNat)
  case atStart => exact ⟨0, _, Nat.zero_le _, rfl, HS0.out⟩
  case round =>
    obtain ⟨i, us, hi, rfl, hS⟩ := hrel
    obtain ⟨Wr, rfl⟩ : ∃ W, W = wr := ⟨_, rfl⟩
    by_cases hlt : i < n
    · obtain ⟨t1, z1⟩ := hS.topAt (outTo_length _ _ _) hlt
      have hgw : w.heap.size < Wr.heap.size := by obtain ⟨g', c', hv, _, h2⟩ := hS.rows.top; simp only [Value.slice.injEq, Option.some.injEq, Addr.mk.injEq] at hv; omega
      have hs1 := hS.row hlt (by unfold maxLen; omega)
      rw [World.setCell_alloc_past _ _ _ _ hgw] at hs1
      have hul := hS.rows.own.len
      rw [outTo_length] at hul
      have hu2 : (us.set i (.slice (some ⟨Wr.heap.size, 0, none⟩) n n)).getD i undef = .slice (some ⟨Wr.heap.size, 0, none⟩) n n := getD_set_self _ _ _ _ (by omega)
      obtain ⟨W1, hW1⟩ : ∃ W1, W1 = ((Wr.setCell ⟨w.heap.size, i, none⟩ (.slice (some ⟨Wr.heap.size, 0, none⟩) n n)).alloc (.cells (madeCells #[.int .i64 0] n) 2)) := ⟨_, rfl⟩
      rw [← hW1] at hs1
      have hc1 := (hs1.topAt (sqTo_length _ _ _ _) hlt).1
      rw [hu2] at hc1
      have HS1 := Lib.hid hs1
      have HU := Lib.hid hu2
      have HW := Lib.hid hW1
      clear hS hs1 hu2 hul hW1
      generalize us.set i (.slice (some ⟨Wr.heap.size, 0, none⟩) n n) = us2 at *
      generalize us.getD i undef = pv at *
      go_wp2_with fail
      rw [← HW.out]
      have hzW : Wr.heap.size < W1.heap.size := by rw [HW.out]; simp
      clear t1 z1 HW hmk hmk2
      go_loopw [7, 25] (fun _ c wi => ∃ (k : Nat), k ≤ n ∧ c = .int .i64 k ∧ Sq w wi n (sqTo n g i k) us2) (fun _ c _ => n - (intOf c).toNat)
      case atStart => exact ⟨0, Nat.zero_le _, rfl, HS1.out⟩
      case round =>
        obtain ⟨k, hk, rfl, hI⟩ := hrel
        by_cases hltk : k < n
        · have d1 := (hI.topAt (sqTo_length _ _ _ _) hlt).1
          rw [HU.out] at d1
          have hdt := fun (w2 : World) (h : Below wr.heap.size wr w2) => h
          have HI := Lib.hid hI
          have hbw := hI.below
          have hcall := fun (w2 : World) (h : Below wr.heap.size wr w2) => HCL.out w2 i k (hbw.trans (h.mono hbw.size)) hlt hltk
          have HC := Lib.hid hcall
          have hst := fun (w2 : World) (h : Below wr.heap.size wr w2) => And.intro ((HI.out.next h).numAt hlt hltk HU.out) ((HI.out.next h).num (k := k) hlt HU.out)
          have HST := Lib.hid hst
          have dt := fun (w2 : World) (h : Below wr.heap.size wr w2) => (h.cell (p := ⟨w.heap.size, i, none⟩) (World.block_lt_of_cell? wr _ d1)).trans d1
          clear hI hcall hst hbw hdt
          go_wp2_with fail
          go_region_with (go_at_call 98; refine (HC.out _ (by (repeat' (first | (with_reducible exact Below.refl _ _) | (with_reducible assumption) | (with_reducible refine Below.alloc ?_ ?_ _) | (with_reducible refine Below.drew ?_) | (with_reducible refine below_drewN ?_ _) | (with_reducible refine Below.setCell ?_ ?_ _) | (with_reducible refine Below.trans ?_ (Below.mono (by with_reducible assumption) ?_)) | (with_reducible exact Below.size (by with_reducible assumption)) | go_size)))).mono ?_; rintro e w2 ⟨rfl, hb2⟩; have hk2 : Below wr.heap.size wr w2 := (by (repeat' (first | (with_reducible exact Below.refl _ _) | (with_reducible assumption) | (with_reducible refine Below.alloc ?_ ?_ _) | (with_reducible refine Below.drew ?_) | (with_reducible refine below_drewN ?_ _) | (with_reducible refine Below.setCell ?_ ?_ _) | (with_reducible refine Below.trans ?_ (Below.mono (by with_reducible assumption) ?_)) | (with_reducible exact Below.size (by with_reducible assumption)) | go_size))); have d2 := dt _ hk2; obtain ⟨⟨⟨pv2, p1⟩, p2, p3⟩, p4⟩ := HST.out _ hk2; have P4 := Lib.hid p4; clear p4)
          all_goals
            go_wp2_with fail
            go_roundw
            case rel => exact ⟨k + 1, by omega, by go_num, P4.out⟩
            case measure => simp [intOf]; omega
        · obtain rfl : k = n := by omega
          rw [sqTo_all] at hI
          have HI := Lib.hid hI
          clear hI
          go_wp2_with fail
          go_roundw
          case rel => exact ⟨i + 1, _, by omega, by go_num, HI.out⟩
          case measure => simp [intOf]; omega
    · obtain rfl : i = n := by omega
      have hend := hS.rows
      rw [outTo_all] at hend
      have HEND := Lib.hid hend
      have hb := hS.below
      clear hend hS
      go_wp2_with fail
      go_ret
      exact ⟨us, rfl, HEND.out, hb⟩
/-- Where a table lies: whatever is laid behind it. -/
def TabW (w : World) (b off k l : Nat) (T : List (List Int)) : Prop :=
  ∀ wr, Below w.heap.size w wr → ∀ i, i < k → ∃ r o d, wr.cell? ⟨b, off + i, none⟩ = some (.slice (some ⟨r, o, none⟩) l d) ∧ ∀ j, j < l → wr.cell? ⟨r, o + j, none⟩ = some (.int .i64 (wE T i j))
theorem TabW.below {w w' : World} {b off k l : Nat} {T : List (List Int)} (h : TabW w b off k l T) (hb : Below w.heap.size w w') : TabW w' b off k l T := fun wr hw => h wr (hb.trans (hw.mono hb.size))
theorem tabW_at {w : World} {v : Value} {M : List (List Int)} {l : Nat} (h : PM.Rows w v M) (h1 : 1 ≤ M.length) (hl1 : 1 ≤ l) (hl : ∀ i, i < M.length → (M.getD i []).length = l) :
    ∃ b off c, v = .slice (some ⟨b, off, none⟩) M.length c ∧ b < w.heap.size ∧ TabW w b off M.length l M := by
  obtain ⟨b, off, c, rfl, hb, _, hr⟩ := wrows_at h h1
  refine ⟨b, off, c, rfl, hb, fun wr hw i hi => ?_⟩
  obtain ⟨u, hu, hi2⟩ := hr i hi
  have hil := hl i hi
  obtain ⟨r, o, d, rfl, hlt, hcs⟩ := wints_row hi2 (by omega)
  rw [hil] at hu
  refine ⟨r, o, d, (hw.cell (p := ⟨b, off + i, none⟩) hb).trans hu, fun j hj => ?_⟩
  exact (hw.cell (p := ⟨r, o + j, none⟩) hlt).trans (hcs j (by omega))

set_option maxHeartbeats 2000000 in
theorem pp_tells {w : World} {D A : List (List Int)} {av : Value} {Bk Bg n m b off c : Nat} (n5 : n + m ≤ 5) (hD : TabW w b off n n D)
    (hA : 1 ≤ m → ∃ b2 off2 c2, av = .slice (some ⟨b2, off2, none⟩) m c2 ∧ TabW w b2 off2 m n A)
    (ak : ∀ j, j < m → ∀ k, k < n → -20 ≤ wE A j k ∧ wE A j k ≤ 20)
    (d0 : w.cell? ⟨Bk, 0, none⟩ = some (.int .i64 n)) (d1 : w.cell? ⟨Bg, 0, none⟩ = some (.slice (some ⟨b, off, none⟩) n c)) (d2 : w.cell? ⟨Bg, 2, none⟩ = some av) :
    Tells2 98 Bk Bg (n + m) (ppG D A n) w := by
  intro w' i j hb hi hj
  have e0 := (hb.cell (p := ⟨Bk, 0, none⟩) (World.block_lt_of_cell? w _ d0)).trans d0
  have e1 := (hb.cell (p := ⟨Bg, 0, none⟩) (World.block_lt_of_cell? w _ d1)).trans d1
  have e2 := (hb.cell (p := ⟨Bg, 2, none⟩) (World.block_lt_of_cell? w _ d2)).trans d2
  clear d0 d1 d2
  by_cases h1 : i < n
  · have g1 : (i : Int) < n := by omega
    by_cases h2 : j < n
    · have e : ppG D A n i j = wE D i j := by unfold ppG; rw [if_pos h1, if_pos h2]
      rw [e]
      obtain ⟨r, o, d, f1, f2⟩ := hD w' hb i h1
      have f3 := f2 j h2
      have g2 : (j : Int) < n := by omega
      clear f2 hA hD ak e
      generalize wE D i j = x at *
      go_enter Try.func98, Try.ntmps98
      go_wp2_with fail
      go_ret
      exact ⟨rfl, by (repeat' (first | (with_reducible exact Below.refl _ _) | (with_reducible assumption) | (with_reducible refine Below.alloc ?_ ?_ _) | (with_reducible refine Below.drew ?_) | (with_reducible refine below_drewN ?_ _) | (with_reducible refine Below.setCell ?_ ?_ _) | (with_reducible refine Below.trans ?_ (Below.mono (by with_reducible assumption) ?_)) | (with_reducible exact Below.size (by with_reducible assumption)) | go_size))⟩
    · have e : ppG D A n i j = - wE A (j - n) i := by unfold ppG; rw [if_pos h1, if_neg h2]
      rw [e]
      obtain ⟨b2, off2, c2, rfl, hT⟩ := hA (by omega)
      obtain ⟨r, o, d, f1, f2⟩ := hT w' hb (j - n) (by omega)
      have f3 := f2 i h1
      have hx := ak (j - n) (by omega) i h1
      have hjm : j - n < m := by omega
      have g2 : ¬ (j : Int) < n := by omega
      have g3 : (n : Int) ≤ j := by omega
      clear f2 hA hT hD ak e
      generalize wE A (j - n) i = x at *
      go_enter Try.func98, Try.ntmps98
      go_wp2_with fail

      go_ret
      exact ⟨rfl, by (repeat' (first | (with_reducible exact Below.refl _ _) | (with_reducible assumption) | (with_reducible refine Below.alloc ?_ ?_ _) | (with_reducible refine Below.drew ?_) | (with_reducible refine below_drewN ?_ _) | (with_reducible refine Below.setCell ?_ ?_ _) | (with_reducible refine Below.trans ?_ (Below.mono (by with_reducible assumption) ?_)) | (with_reducible exact Below.size (by with_reducible assumption)) | go_size))⟩
  · have g1 : ¬ (i : Int) < n := by omega
    by_cases h2 : j < n
    · have e : ppG D A n i j = wE A (i - n) j := by unfold ppG; rw [if_neg h1, if_pos h2]
      rw [e]
      obtain ⟨b2, off2, c2, rfl, hT⟩ := hA (by omega)
      obtain ⟨r, o, d, f1, f2⟩ := hT w' hb (i - n) (by omega)
      have f3 := f2 j h2
      have hjm : i - n < m := by omega
      have g2 : (j : Int) < n := by omega
      have g3 : (n : Int) ≤ i := by omega
      clear f2 hA hT hD ak e
      generalize wE A (i - n) j = x at *
      go_enter Try.func98, Try.ntmps98
      go_wp2_with fail

      go_ret
      exact ⟨rfl, by (repeat' (first | (with_reducible exact Below.refl _ _) | (with_reducible assumption) | (with_reducible refine Below.alloc ?_ ?_ _) | (with_reducible refine Below.drew ?_) | (with_reducible refine below_drewN ?_ _) | (with_reducible refine Below.setCell ?_ ?_ _) | (with_reducible refine Below.trans ?_ (Below.mono (by with_reducible assumption) ?_)) | (with_reducible exact Below.size (by with_reducible assumption)) | go_size))⟩
    · have e : ppG D A n i j = 0 := by unfold ppG; rw [if_neg h1, if_neg h2]
      rw [e]
      have g2 : ¬ (j : Int) < n := by omega
      clear hA hD ak e
      go_enter Try.func98, Try.ntmps98
      go_wp2_with fail
      go_ret
      exact ⟨rfl, by (repeat' (first | (with_reducible exact Below.refl _ _) | (with_reducible assumption) | (with_reducible refine Below.alloc ?_ ?_ _) | (with_reducible refine Below.drew ?_) | (with_reducible refine below_drewN ?_ _) | (with_reducible refine Below.setCell ?_ ?_ _) | (with_reducible refine Below.trans ?_ (Below.mono (by with_reducible assumption) ?_)) | (with_reducible exact Below.size (by with_reducible assumption)) | go_size))⟩
end Go.Proofs.Ytgncaploccbfnaa.PW
