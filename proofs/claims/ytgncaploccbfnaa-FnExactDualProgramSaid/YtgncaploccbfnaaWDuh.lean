/-
  DualProgram: what its helpers answer: is a program linear, columns, zeros, numbers with the other sign.
-/
import Derived.Test.YtgncaploccbfnaaWPps
import Derived.Test.YtgncaploccbfnaaWSlo
namespace Go.Proofs.Ytgncaploccbfnaa.PW
open Go.RowKit Go.Proofs.Ytgncaploccbfnaa
open Go.Proofs.Ytgncaploccbfnaa.PM Go.Proofs.Ytgncaploccbfnaa.PX
attribute [local go_sem] Oper.semAt_some

def linB (D : List (List Int)) : Bool := D.all (wit 0)
theorem lin_rows (D : List (List Int)) : linB D = true ↔ ∀ i, i < D.length → wit 0 (D.getD i []) = true := by
  unfold linB
  rw [List.all_eq_true]
  constructor
  · intro h i hi
    exact h _ (by rw [List.getD_eq_getElem?_getD, List.getElem?_eq_getElem hi, Option.getD_some]; exact List.getElem_mem hi)
  · intro h x hx
    obtain ⟨i, hi, rfl⟩ := List.getElem_of_mem hx
    have := h i hi
    rwa [List.getD_eq_getElem?_getD, List.getElem?_eq_getElem hi, Option.getD_some] at this
theorem lin_iff {D : List (List Int)} {n : Nat} (hn : D.length = n) (hr : ∀ i, i < n → (D.getD i []).length = n) : linB D = true ↔ ∀ i, i < n → ∀ j, j < n → wE D i j = 0 := by
  rw [lin_rows, hn]
  constructor
  · intro h i hi j hj
    have := (wit_iff 0 _).1 (h i hi) j (by rw [hr i hi]; exact hj)
    unfold wE
    omega
  · intro h i hi
    refine (wit_iff 0 _).2 fun j hj => ?_
    have := h i hi j (by rw [hr i hi] at hj; exact hj)
    unfold wE at this
    omega
def colW (T : List (List Int)) (k j : Nat) : List Int := (List.range k).map fun i => wE T i j
set_option maxRecDepth 100000 in
set_option maxHeartbeats 2000000 in
theorem columnW_any (v : Value) (T : List (List Int)) (k l j : Nat) (w : World) (h1 : PM.Rows w v T) (hk : T.length = k) (hk1 : 1 ≤ k) (hk5 : k ≤ 5) (hl1 : 1 ≤ l) (_hl5 : l ≤ 5) (hrl : ∀ i, i < k → (T.getD i []).length = l) (hj : j < l) :
    Calls Try.prog 115 #[v, .int .i64 j] w fun e w' => ∃ g, e = .returned (.slice (some ⟨g, 0, none⟩) k k) ∧ FreshI w.heap.size w' (.slice (some ⟨g, 0, none⟩) k k) (colW T k j) ∧ Below w.heap.size w w' := by
  obtain ⟨b, off, c, rfl, _, hA⟩ := tabW_at h1 (by omega) hl1 (fun i hi => hrl i (by omega))
  rw [hk] at hA ⊢
  have HA := Lib.hid hA
  have hmk := run_make_row' (P := Try.prog) 23 2 (.int .i64 0) 8 Try.underlying23 info_int rfl .i64 .i64 k (by omega) (by omega)
  have HZ := Lib.hid (zeros_fresh w k (by unfold maxLen; omega))
  have hA0 : Below w.heap.size w (w.alloc (.cells (madeCells #[.int .i64 0] k) 2)) := (Below.refl _ _).alloc (Nat.le_refl _) _
  obtain ⟨F, hF⟩ : ∃ F : Nat → Int, F = fun i => wE T i j := ⟨_, rfl⟩
  have hall : (List.range k).map F = colW T k j := by rw [hF]; rfl
  have HALL := Lib.hid hall
  have HF := Lib.hid (fun i => show F i = wE T i j by rw [hF])
  clear h1 hk hrl hA hF hall
  obtain ⟨g, hg⟩ : ∃ g, g = w.heap.size := ⟨_, rfl⟩
  go_enter Try.func115, Try.ntmps115
  go_wp2_with fail
  rw [← hg]
  rw [← hg] at HZ
  have hgw : w.heap.size ≤ g := by omega
  clear hg
  go_loopw [6, 7, 13] (fun _ _ i wr => ∃ n : Nat, n ≤ k ∧ i = .int .i64 n ∧ FreshI g wr (.slice (some ⟨g, 0, none⟩) k k) (filN k n F) ∧ Below w.heap.size w wr) (fun _ _ i _ => k - (intOf i).toNat)
  case atStart => exact ⟨0, Nat.zero_le _, rfl, by rw [filN_zero]; exact HZ.out, hA0⟩
  case round =>
    obtain ⟨n, hn, rfl, hO, hB⟩ := hrel
    clear hmk
    by_cases hlt : n < k
    · obtain ⟨r, ro, rd, t0, y0⟩ := HA.out wr hB n hlt
      have r0 := y0 j hj
      rw [← HF.out n] at r0
      obtain ⟨_, _, hvv, _, hz4, hoo⟩ := id hO
      have hgz : g < wr.heap.size := by simp at hvv; omega
      clear hvv hz4
      have hll : k = (filN k n F).length := by simp [filN]
      have c6 := own_cellN hoo hll hlt
      have c7 := own_frozenN hoo hll n
      have hst := hO.setN n (F n)
      have hbl := hB.setCell (p := ⟨g, n, none⟩) (by show _ ≤ g; omega) (.int .i64 (F n))
      rw [filN_set] at hst
      have HST := Lib.hid hst
      have HBL := Lib.hid hbl
      clear hst hbl hll hoo hO hB y0
      generalize F n = x at *
      generalize (filN k n F).getD n 0 = y at *
      go_wp2_with fail
      go_roundw
      case rel => exact ⟨n + 1, by omega, by go_num, HST.out, HBL.out⟩
      case measure => simp [intOf]; omega
    · have hnk : n = k := by omega
      rw [hnk, filN_all, HALL.out] at hO
      have HO := Lib.hid (hO.mono hgw)
      have HB := Lib.hid hB
      clear hO hB
      go_wp2_with fail
      go_ret
      exact ⟨_, rfl, HO.out, HB.out⟩

/-- What a function value gives that closes over nothing. -/
def Tells0 (G n : Nat) (g : Nat → Nat → Int) (w : World) : Prop :=
  ∀ (w' : World) (i k : Nat), Below w.heap.size w w' → i < n → k < n → Calls Try.prog G #[.int .i64 i, .int .i64 k] w' fun e w'' => e = .returned (.int .i64 (g i k)) ∧ Below w'.heap.size w' w''
theorem du_tells (n : Nat) (w : World) : Tells0 114 n (fun _ _ => 0) w := by
  intro w' i k _ _ _
  go_enter Try.func114, Try.ntmps114
  go_wp2_with fail
  go_ret
  exact ⟨rfl, Below.refl _ _⟩
set_option maxRecDepth 100000 in
set_option maxHeartbeats 2000000 in
theorem squareRows_du (n : Nat) (g : Nat → Nat → Int) (w : World) (hn1 : 1 ≤ n) (hn5 : n ≤ 5) (hcl : Tells0 114 n g w) :
    Calls Try.prog 97 #[.int .i64 n, .func (.func 114) #[] #[]] w fun e w' => ∃ us, e = .returned (.slice (some ⟨w.heap.size, 0, none⟩) n n) ∧ FreshR w.heap.size w' (.slice (some ⟨w.heap.size, 0, none⟩) n n) (tab n g) us ∧ Below w.heap.size w w' := by
  have hmk := run_make_row' (P := Try.prog) 22 23 (.slice none 0 0) 24 Try.underlying22 info_ints rfl .i64 .i64 n (by omega) (by omega)
  have hmk2 := run_make_row' (P := Try.prog) 23 2 (.int .i64 0) 8 Try.underlying23 info_int rfl .i64 .i64 n (by omega) (by omega)
  have HCL := Lib.hid hcl
  clear hcl
  have hS0 : Sq w (w.alloc (.cells (madeCells #[.slice none 0 0] n) 23)) n (outTo n g 0) (List.replicate n (.slice none 0 0)) := ⟨by rw [outTo_zero]; exact freshR_made w n (by unfold maxLen; omega), (Below.refl _ _).alloc (Nat.le_refl _) _⟩
  have HS0 := Lib.hid hS0
  clear hS0
  go_enter Try.func97, Try.ntmps97
  go_wp2_with fail
  go_loopw [6, 7, 12, 25] (fun _ _ c _ wr => ∃ (i : Nat) (us : List Value), i ≤ n ∧ c = .int .i64 i ∧ Sq w wr n (outTo n g i) us) (fun _ _ c _ _ => n - (intOf c).toNat)
  case atStart => exact ⟨0, _, Nat.zero_le _, rfl, HS0.out⟩
  case round =>
    obtain ⟨i, us, hi, rfl, hS⟩ := hrel
    obtain ⟨Wr, rfl⟩ : ∃ W, W = wr := ⟨_, rfl⟩
    by_cases hlt : i < n
    · obtain ⟨t1, z1⟩ := hS.topAt (outTo_length _ _ _) hlt
      have hgw : w.heap.size < Wr.heap.size := by obtain ⟨g', c', hv, _, h2⟩ := hS.rows.top; simp only [Value.slice.injEq, Option.some.injEq, Addr.mk.injEq] at hv; omega
      have hs1 := hS.row hlt (by unfold maxLen; omega)
      rw [World.setCell_alloc_past _ _ _ _ hgw] at hs1
      have hul := hS.rows.own.len
      rw [outTo_length] at hul
      have hu2 : (us.set i (.slice (some ⟨Wr.heap.size, 0, none⟩) n n)).getD i undef = .slice (some ⟨Wr.heap.size, 0, none⟩) n n := getD_set_self _ _ _ _ (by omega)
      obtain ⟨W1, hW1⟩ : ∃ W1, W1 = ((Wr.setCell ⟨w.heap.size, i, none⟩ (.slice (some ⟨Wr.heap.size, 0, none⟩) n n)).alloc (.cells (madeCells #[.int .i64 0] n) 2)) := ⟨_, rfl⟩
      rw [← hW1] at hs1
      have hc1 := (hs1.topAt (sqTo_length _ _ _ _) hlt).1
      rw [hu2] at hc1
      have HS1 := Lib.hid hs1
      have HU := Lib.hid hu2
      have HW := Lib.hid hW1
      clear hS hs1 hu2 hul hW1
      generalize us.set i (.slice (some ⟨Wr.heap.size, 0, none⟩) n n) = us2 at *
      generalize us.getD i undef = pv at *
      go_wp2_with fail
      rw [← HW.out]
      have hzW : Wr.heap.size < W1.heap.size := by rw [HW.out]; simp
      clear t1 z1 HW hmk hmk2
      go_loopw [7, 25] (fun _ c wi => ∃ (k : Nat), k ≤ n ∧ c = .int .i64 k ∧ Sq w wi n (sqTo n g i k) us2) (fun _ c _ => n - (intOf c).toNat)
      case atStart => exact ⟨0, Nat.zero_le _, rfl, HS1.out⟩
      case round =>
        obtain ⟨k, hk, rfl, hI⟩ := hrel
        by_cases hltk : k < n
        · have d1 := (hI.topAt (sqTo_length _ _ _ _) hlt).1
          rw [HU.out] at d1
          have hdt := fun (w2 : World) (h : Below wr.heap.size wr w2) => h
          have HI := Lib.hid hI
          have hbw := hI.below
          have hcall := fun (w2 : World) (h : Below wr.heap.size wr w2) => HCL.out w2 i k (hbw.trans (h.mono hbw.size)) hlt hltk
          have HC := Lib.hid hcall
          have hst := fun (w2 : World) (h : Below wr.heap.size wr w2) => And.intro ((HI.out.next h).numAt hlt hltk HU.out) ((HI.out.next h).num (k := k) hlt HU.out)
          have HST := Lib.hid hst
          have dt := fun (w2 : World) (h : Below wr.heap.size wr w2) => (h.cell (p := ⟨w.heap.size, i, none⟩) (World.block_lt_of_cell? wr _ d1)).trans d1
          clear hI hcall hst hbw hdt
          go_wp2_with fail
          go_region_with (go_at_call 114; refine (HC.out _ (by (repeat' (first | (with_reducible exact Below.refl _ _) | (with_reducible assumption) | (with_reducible refine Below.alloc ?_ ?_ _) | (with_reducible refine Below.drew ?_) | (with_reducible refine below_drewN ?_ _) | (with_reducible refine Below.setCell ?_ ?_ _) | (with_reducible refine Below.trans ?_ (Below.mono (by with_reducible assumption) ?_)) | (with_reducible exact Below.size (by with_reducible assumption)) | go_size)))).mono ?_; rintro e w2 ⟨rfl, hb2⟩; have hk2 : Below wr.heap.size wr w2 := (by (repeat' (first | (with_reducible exact Below.refl _ _) | (with_reducible assumption) | (with_reducible refine Below.alloc ?_ ?_ _) | (with_reducible refine Below.drew ?_) | (with_reducible refine below_drewN ?_ _) | (with_reducible refine Below.setCell ?_ ?_ _) | (with_reducible refine Below.trans ?_ (Below.mono (by with_reducible assumption) ?_)) | (with_reducible exact Below.size (by with_reducible assumption)) | go_size))); have d2 := dt _ hk2; obtain ⟨⟨⟨pv2, p1⟩, p2, p3⟩, p4⟩ := HST.out _ hk2; have P4 := Lib.hid p4; clear p4)
          all_goals
            go_wp2_with fail
            go_roundw
            case rel => exact ⟨k + 1, by omega, by go_num, P4.out⟩
            case measure => simp [intOf]; omega
        · obtain rfl : k = n := by omega
          rw [sqTo_all] at hI
          have HI := Lib.hid hI
          clear hI
          go_wp2_with fail
          go_roundw
          case rel => exact ⟨i + 1, _, by omega, by go_num, HI.out⟩
          case measure => simp [intOf]; omega
    · obtain rfl : i = n := by omega
      have hend := hS.rows
      rw [outTo_all] at hend
      have HEND := Lib.hid hend
      have hb := hS.below
      clear hend hS
      go_wp2_with fail
      go_ret
      exact ⟨us, rfl, HEND.out, hb⟩

set_option maxRecDepth 100000 in
set_option maxHeartbeats 2000000 in
theorem isLinear_any (d c a b : Value) (D : List (List Int)) (C : List Int) (A : List (List Int)) (B : List Int) (w : World) (h1 : PM.Rows w d D) (h2 : Ints w c C) (h3 : PM.Rows w a A) (h4 : Ints w b B) (hc : isWB D C A B = true) :
    Calls Try.prog 113 #[.agg #[d, c, a, b]] w fun e w' => e = .returned (.bool (linB D)) ∧ Below w.heap.size w w' := by
  have hW := (isWB_is D C A B).1 hc
  obtain ⟨BD, off, cd, rfl, hBD, hTD⟩ := rowsW_at (l := C.length) h1 (by rw [hW.d]; exact hW.n1) hW.n1 (fun i hi => hW.dr i (by rw [← hW.d]; exact hi))
  obtain ⟨x2, y2, rfl, _⟩ := h2
  obtain ⟨x3, y3, rfl, _⟩ := h3
  obtain ⟨x4, y4, rfl, _⟩ := h4
  have HL := Lib.hid (lin_rows D)
  have HTD := Lib.hid hTD
  have hD5 : D.length ≤ 5 := by have := hW.n5; have := hW.d; omega
  generalize linB D = OUT at *
  clear h1 hc hW hTD
  obtain ⟨n, hn⟩ : ∃ n, n = D.length := ⟨_, rfl⟩
  rw [← hn] at HTD HL hD5 ⊢
  clear hn
  obtain ⟨W0, hW0⟩ : ∃ W0, W0 = w.alloc (.cells #[.slice (some ⟨BD, off, none⟩) n cd, .slice x2 C.length y2, .slice x3 A.length y3, .slice x4 B.length y4] 54) := ⟨_, rfl⟩
  have hb0 : Below w.heap.size w W0 := by rw [hW0]; exact (Below.refl _ _).alloc (Nat.le_refl _) _
  have k0 : W0.cell? ⟨w.heap.size, 0, none⟩ = some (.slice (some ⟨BD, off, none⟩) n cd) := by rw [hW0]; simp
  have HB0 := Lib.hid hb0
  have HW0 := Lib.hid hW0
  clear hW0 hb0
  go_enter Try.func113, Try.ntmps113
  go_wp2_with fail
  rw [← HW0.out]
  go_wp2_with fail
  go_loopw [4, 8] (fun _ i wr => ∃ k : Nat, k ≤ n ∧ i = .int .i64 k ∧ Hid (∀ j, j < k → wit 0 (D.getD j []) = true) ∧ wr = W0) (fun _ i _ => n - (intOf i).toNat)
  case atStart => exact ⟨0, Nat.zero_le _, rfl, fun j hj => absurd hj (Nat.not_lt_zero _), rfl⟩
  case round =>
    obtain ⟨k, hk, rfl, hgood, hw⟩ := hrel
    have hw' := hw.symm
    clear hw
    subst hw'
    by_cases hlt : k < n
    · obtain ⟨r, o, dd, hr, t1, t2, _⟩ := HTD.out k hlt
      have t1 := (HB0.out.cell (p := ⟨BD, off + k, none⟩) hBD).trans t1
      have HAW := Lib.hid (areWithin_any _ _ 0 W0 (t2.below HB0.out) (by decide) (by decide))
      clear t2 hr
      cases hx : wit 0 (D.getD k [])
      · rw [hx] at HAW
        have hO : OUT = false := Bool.eq_false_iff.2 (fun e => by have := (HL.out.1 e) k hlt; rw [hx] at this; exact Bool.noConfusion this)
        subst hO
        clear hx
        go_wp2_with fail
        refine HAW.out.mono ?_; rintro e w1 ⟨rfl, rfl⟩
        go_wp2_with fail
        go_ret
        exact ⟨rfl, HB0.out⟩
      · rw [hx] at HAW
        have hg2 : Hid (∀ j, j < k + 1 → wit 0 (D.getD j []) = true) := fun j hj => by
          by_cases e : j = k
          · subst e; exact hx
          · exact hgood.out j (by omega)
        clear hx hgood
        go_wp2_with fail
        refine HAW.out.mono ?_; rintro e w1 ⟨rfl, rfl⟩
        go_wp2_with fail
        go_roundw
        case rel => exact ⟨k + 1, by omega, by go_num, hg2, trivial⟩
        case measure => simp [intOf]; omega
    · obtain rfl : k = n := by omega
      have hO : OUT = true := HL.out.2 hgood.out
      subst hO
      clear hgood
      go_wp2_with fail
      go_ret
      exact ⟨rfl, HB0.out⟩
end Go.Proofs.Ytgncaploccbfnaa.PW
