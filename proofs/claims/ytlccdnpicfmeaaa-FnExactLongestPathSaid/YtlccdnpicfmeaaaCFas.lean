/-
  Walks: the face of a vertex and a set of directions, in the model.
-/
import Derived.Test.YtlccdnpicfmeaaaCFai
namespace Go.Proofs.Ytlccdnpicfmeaaa.PW
open Go.RowKit Go.Proofs.Ytlccdnpicfmeaaa
open Go.Proofs.Ytlccdnpicfmeaaa.PM

theorem ones_nat (E : Nat) : ∃ m : Nat, onesTo (E : Int) 5 = (m : Int) ∧ m ≤ 5 := by
  obtain ⟨h1, h2⟩ := onesTo_bd (s := (E : Int)) (by omega) 5
  generalize onesTo (E : Int) 5 = x at *
  exact ⟨x.toNat, by omega, by omega⟩
theorem FreshI.setF {B n g cap : Nat} {w : World} {xs : List Int} (h : FreshI B w (.slice (some ⟨g, 0, none⟩) n cap) xs) (k : Nat) (x : Int) : FreshI B (w.setCell ⟨g, k, none⟩ (.int .i64 x)) (.slice (some ⟨g, 0, none⟩) n cap) (xs.set k x) := by
  obtain ⟨g', cap', hv, hB, hlt, ho⟩ := h
  simp only [Value.slice.injEq, Option.some.injEq, Addr.mk.injEq, and_true] at hv
  obtain ⟨rfl, rfl, rfl⟩ := hv
  refine ⟨g, cap, by simp, hB, by simpa using hlt, ?_⟩
  exact own_set ho k x
theorem set_zeros (xs : List Int) (m : Nat) (y : Int) : (xs ++ List.replicate (m + 1) 0).set xs.length y = xs ++ [y] ++ List.replicate m 0 := by
  rw [List.set_append_right _ _ (Nat.le_refl _), Nat.sub_self, List.replicate_succ, List.set_cons_zero, List.append_assoc]
  rfl
/-- The variable P holds an orientation over a list of its own, which is filled. -/
structure FaS (w1 wr : World) (P G S : Nat) (D : Int) (xs : List Int) : Prop where
  c0 : wr.cell? ⟨P, 0, none⟩ = some (.int .i64 D)
  c1 : wr.cell? ⟨P, 1, none⟩ = some (.slice (some ⟨G, 0, none⟩) S S)
  own : FreshI w1.heap.size wr (.slice (some ⟨G, 0, none⟩) S S) xs
  ne : G ≠ P
  low : Below w1.heap.size w1 wr
theorem FaS.set {w1 wr : World} {P G S : Nat} {D : Int} {xs : List Int} (h : FaS w1 wr P G S D xs) (hG : w1.heap.size ≤ G) (k : Nat) (x : Int) : FaS w1 (wr.drew.setCell ⟨G, k, none⟩ (.int .i64 x)) P G S D (xs.set k x) := by
  have hne : P ≠ G := fun e => h.ne e.symm
  have ho : FreshI w1.heap.size wr.drew (.slice (some ⟨G, 0, none⟩) S S) xs := h.own.below (Below.refl _ _).drew
  have e0 : (wr.drew.setCell ⟨G, k, none⟩ (.int .i64 x)).cell? ⟨P, 0, none⟩ = wr.drew.cell? ⟨P, 0, none⟩ := World.cell?_of_block (a := ⟨P, 0, none⟩) (Below.heap_setCell _ _ _ _ hne)
  have e1 : (wr.drew.setCell ⟨G, k, none⟩ (.int .i64 x)).cell? ⟨P, 1, none⟩ = wr.drew.cell? ⟨P, 1, none⟩ := World.cell?_of_block (a := ⟨P, 1, none⟩) (Below.heap_setCell _ _ _ _ hne)
  exact ⟨e0.trans h.c0, e1.trans h.c1, ho.setF k x, h.ne, h.low.drew.setCell hG _⟩

set_option maxRecDepth 100000 in
set_option maxHeartbeats 4000000 in
theorem specFaceOf_any (D : Int) (q : Value) (O : List Int) (v d : Int) (w : World) (hq : Ints w q O) :
    Calls Try.prog 43 #[.agg #[.int .i64 D, q], .int .i64 v, .int .i64 d] w (OutC w (faOut D O v d)) := by
  have HCK := Lib.hid (fun w' u (h : Below w.heap.size w w') (hv : Cel w' u [v, d]) => l06Code_any D q u O [v, d] w' (hq.below h) hv (by simp))
  by_cases hcd : cdOut D O [v, d] = 0
  case neg =>
    rw [faOut_no hcd]
    generalize cdOut D O [v, d] = A at *
    obtain ⟨a, cap, rfl, _⟩ := hq
    have hab : (A != 0) = true := by simpa using hcd
    have hac : (A == 0) = false := by simpa using hcd
    clear hcd
    go_enter Try.func43, Try.ntmps43
    go_wp2_with fail
    refine (HCK.out _ _ (by (repeat' (first | (with_reducible exact Below.refl _ _) | (with_reducible assumption) | (with_reducible refine Below.alloc ?_ ?_ _) | (with_reducible refine Below.drew ?_) | (with_reducible refine below_drewN ?_ _) | (with_reducible refine Below.setCell ?_ ?_ _) | (with_reducible refine Below.trans ?_ (Below.mono (by with_reducible assumption) ?_)) | (with_reducible exact Below.size (by with_reducible assumption)) | go_size))) (cel_two _ _ _ _ _ (by simp))).mono ?_
    rintro e w1 ⟨rfl, hb1⟩
    have hw1 : Below w.heap.size w w1 := by (repeat' (first | (with_reducible exact Below.refl _ _) | (with_reducible assumption) | (with_reducible refine Below.alloc ?_ ?_ _) | (with_reducible refine Below.drew ?_) | (with_reducible refine below_drewN ?_ _) | (with_reducible refine Below.setCell ?_ ?_ _) | (with_reducible refine Below.trans ?_ (Below.mono (by with_reducible assumption) ?_)) | (with_reducible exact Below.size (by with_reducible assumption)) | go_size))
    obtain ⟨hc_hb1, hf_hb1⟩ := bcell hb1; obtain ⟨hcA_hb1, hfA_hb1⟩ := bcellG (W0 := w) hb1 (by (repeat' (first | (with_reducible exact Below.refl _ _) | (with_reducible assumption) | (with_reducible refine Below.alloc ?_ ?_ _) | (with_reducible refine Below.drew ?_) | (with_reducible refine below_drewN ?_ _) | (with_reducible refine Below.setCell ?_ ?_ _) | (with_reducible refine Below.trans ?_ (Below.mono (by with_reducible assumption) ?_)) | (with_reducible exact Below.size (by with_reducible assumption)) | go_size))); have hz_hb1 := hb1.size; (try simp at hz_hb1); (try simp only [Nat.add_one_le_iff] at hz_hb1); have hz0_hb1 : w.heap.size < w1.heap.size := (by omega); have hz1_hb1 : w.heap.size + 1 < w1.heap.size := (by omega)
    clear HCK
    go_wp2_with fail
    refine bodyPost_ret (v := .tuple #[.agg #[.int .i64 0, .slice none 0 0], .int .i64 A]) (by simp [*, results, Try.results43, go_sem]) rfl ?_
    exact outC_err ((hw1.setCell (by simp) _).setCell (by simp) _)
  by_cases hd0 : d = 0
  · rw [faOut_zero hcd hd0]
    rw [hcd] at HCK
    obtain ⟨a, cap, rfl, _⟩ := hq
    clear hcd
    subst hd0
    go_enter Try.func43, Try.ntmps43
    go_wp2_with fail
    refine (HCK.out _ _ (by (repeat' (first | (with_reducible exact Below.refl _ _) | (with_reducible assumption) | (with_reducible refine Below.alloc ?_ ?_ _) | (with_reducible refine Below.drew ?_) | (with_reducible refine below_drewN ?_ _) | (with_reducible refine Below.setCell ?_ ?_ _) | (with_reducible refine Below.trans ?_ (Below.mono (by with_reducible assumption) ?_)) | (with_reducible exact Below.size (by with_reducible assumption)) | go_size))) (cel_two _ _ _ _ _ (by simp))).mono ?_
    rintro e w1 ⟨rfl, hb1⟩
    have hw1 : Below w.heap.size w w1 := by (repeat' (first | (with_reducible exact Below.refl _ _) | (with_reducible assumption) | (with_reducible refine Below.alloc ?_ ?_ _) | (with_reducible refine Below.drew ?_) | (with_reducible refine below_drewN ?_ _) | (with_reducible refine Below.setCell ?_ ?_ _) | (with_reducible refine Below.trans ?_ (Below.mono (by with_reducible assumption) ?_)) | (with_reducible exact Below.size (by with_reducible assumption)) | go_size))
    obtain ⟨hc_hb1, hf_hb1⟩ := bcell hb1; obtain ⟨hcA_hb1, hfA_hb1⟩ := bcellG (W0 := w) hb1 (by (repeat' (first | (with_reducible exact Below.refl _ _) | (with_reducible assumption) | (with_reducible refine Below.alloc ?_ ?_ _) | (with_reducible refine Below.drew ?_) | (with_reducible refine below_drewN ?_ _) | (with_reducible refine Below.setCell ?_ ?_ _) | (with_reducible refine Below.trans ?_ (Below.mono (by with_reducible assumption) ?_)) | (with_reducible exact Below.size (by with_reducible assumption)) | go_size))); have hz_hb1 := hb1.size; (try simp at hz_hb1); (try simp only [Nat.add_one_le_iff] at hz_hb1); have hz0_hb1 : w.heap.size < w1.heap.size := (by omega); have hz1_hb1 : w.heap.size + 1 < w1.heap.size := (by omega)
    clear HCK
    go_wp2_with fail
    refine bodyPost_ret (v := .tuple #[.agg #[.int .i64 0, .slice none 0 0], .int .i64 2]) (by simp [*, results, Try.results43, go_sem]) rfl ?_
    exact outC_err ((hw1.setCell (by simp) _).setCell (by simp) _)
  rw [faOut_ok hcd hd0]
  rw [hcd] at HCK
  obtain ⟨n, V, E, rfl, rfl, rfl, hc, hn1, hn5, hl, hV, hE⟩ := two_cb hcd
  clear hcd
  have hT := pow_le_32 hn5
  have hE0 : ((E : Int) == 0) = false := by simpa using hd0
  have hmx : Try.prog.follows .mixedOrders = true := by kernel_rfl
  obtain ⟨j0, hj, hyy0, hyy1, hyy2⟩ := info_parts info_int
  obtain ⟨b, off, cap, rfl, hb, hcell⟩ := Ints.at_ hq (by omega)
  have HC := Lib.hid hcell
  have h32 : (E : Int) < 32 := by omega
  have HON := Lib.hid (fun w' => l01Ones_any (E : Int) (by omega) h32 w')
  obtain ⟨m, hm, hm5⟩ := ones_nat E
  have HRK := Lib.hid (fun (u : Nat) (h : faP V E u = true) => face_rank hn5 hV hE h)
  have HLN := Lib.hid (face_len hn5 hV hE)
  rw [hm, Int.toNat_natCast] at HRK HLN
  rw [hm] at HON ⊢
  obtain ⟨S, hS⟩ : ∃ S, S = 2 ^ m := ⟨_, rfl⟩
  have hSi : (2 : Int) ^ m = (S : Int) := by rw [hS, Int.natCast_pow]; rfl
  have hS32 : S ≤ 32 := by rw [hS]; exact pow_le_32 hm5
  rw [← hS] at HRK HLN
  have hmk := run_make_row' (P := Try.prog) 23 2 (.int .i64 0) 8 Try.underlying23 info_int rfl .i64 .i64 S (by omega) (by omega)
  have HZ := Lib.hid (fun w' => zeros_fresh w' S (by unfold maxLen; omega))
  have HAN := Lib.hid (fun (u : Nat) (hu : u < O.length) => And.intro (xb_nat u V (by omega) (by omega)) (nb_nat (u ^^^ V) E (Nat.xor_lt_two_pow (by omega) (by omega))))
  have HGA := Lib.hid (fun (x : Int) (w' : World) => l06Gather_any x (E : Int) w')
  rw [Int.toNat_natCast, Int.toNat_natCast]
  have HLE := Lib.hid (fun k => faU_le V E k)
  rw [← hl] at HLN
  have hl32 : O.length ≤ 32 := by omega
  have hm64 : (m : Int) < 18446744073709551616 := by omega
  have hwm := wrap_pow hm5
  clear hl hc hq hcell hT hn1 hn5 hm hV hE hS
  go_enter Try.func43, Try.ntmps43
  go_wp2_with fail
  refine (HCK.out _ _ (by (repeat' (first | (with_reducible exact Below.refl _ _) | (with_reducible assumption) | (with_reducible refine Below.alloc ?_ ?_ _) | (with_reducible refine Below.drew ?_) | (with_reducible refine below_drewN ?_ _) | (with_reducible refine Below.setCell ?_ ?_ _) | (with_reducible refine Below.trans ?_ (Below.mono (by with_reducible assumption) ?_)) | (with_reducible exact Below.size (by with_reducible assumption)) | go_size))) (cel_two _ _ _ _ _ (by simp))).mono ?_
  rintro e w1 ⟨rfl, hb1⟩
  have hw1 : Below w.heap.size w w1 := by (repeat' (first | (with_reducible exact Below.refl _ _) | (with_reducible assumption) | (with_reducible refine Below.alloc ?_ ?_ _) | (with_reducible refine Below.drew ?_) | (with_reducible refine below_drewN ?_ _) | (with_reducible refine Below.setCell ?_ ?_ _) | (with_reducible refine Below.trans ?_ (Below.mono (by with_reducible assumption) ?_)) | (with_reducible exact Below.size (by with_reducible assumption)) | go_size))
  obtain ⟨hc_hb1, hf_hb1⟩ := bcell hb1; obtain ⟨hcA_hb1, hfA_hb1⟩ := bcellG (W0 := w) hb1 (by (repeat' (first | (with_reducible exact Below.refl _ _) | (with_reducible assumption) | (with_reducible refine Below.alloc ?_ ?_ _) | (with_reducible refine Below.drew ?_) | (with_reducible refine below_drewN ?_ _) | (with_reducible refine Below.setCell ?_ ?_ _) | (with_reducible refine Below.trans ?_ (Below.mono (by with_reducible assumption) ?_)) | (with_reducible exact Below.size (by with_reducible assumption)) | go_size))); have hz_hb1 := hb1.size; (try simp at hz_hb1); (try simp only [Nat.add_one_le_iff] at hz_hb1); have hz0_hb1 : w.heap.size < w1.heap.size := (by omega); have hz1_hb1 : w.heap.size + 1 < w1.heap.size := (by omega)
  have HW1 := Lib.hid hw1
  clear HCK hw1
  go_wp2_with fail
  refine (HON.out _).mono ?_
  rintro e w2 ⟨rfl, rfl⟩
  have HK := Lib.hid (fun wr (h : Below w1.heap.size w1 wr) => show wr.cell? ⟨w.heap.size, 0, none⟩ = some (.int .i64 n) ∧ wr.cell? ⟨w.heap.size, 1, none⟩ = some (.slice (some ⟨b, off, none⟩) O.length cap) ∧ wr.cell? ⟨w.heap.size + 1, 0, none⟩ = some (.int .i64 0) ∧ wr.cell? ⟨w.heap.size + 1, 1, none⟩ = some (.slice none 0 0) ∧ (∀ o, wr.frozen? ⟨w.heap.size + 1, o, none⟩ = false) from
    ⟨(h.cell (p := ⟨w.heap.size, 0, none⟩) (by show w.heap.size < _; omega)).trans ((hc_hb1 _ _ (by simp; omega)).trans (cell_alloc3 _ _ _ _ _ _)), (h.cell (p := ⟨w.heap.size, 1, none⟩) (by show w.heap.size < _; omega)).trans ((hc_hb1 _ _ (by simp; omega)).trans (cell_alloc3 _ _ _ _ _ _)),
      (h.cell (p := ⟨w.heap.size + 1, 0, none⟩) (by show w.heap.size + 1 < _; omega)).trans ((hc_hb1 _ _ (by simp)).trans (by simp [go_sem])), (h.cell (p := ⟨w.heap.size + 1, 1, none⟩) (by show w.heap.size + 1 < _; omega)).trans ((hc_hb1 _ _ (by simp)).trans (by simp [go_sem])),
      fun o => (h.frozen (p := ⟨w.heap.size + 1, o, none⟩) (by show w.heap.size + 1 < _; omega)).trans ((hf_hb1 _ _ (by simp)).trans (by simp [go_sem]))⟩)
  have HCC := Lib.hid (fun wr (h : Below w1.heap.size w1 wr) k (hk : k < O.length) => show wr.cell? ⟨b, off + k, none⟩ = some (.int .i64 (O.getD k 0)) from
    (h.cell (p := ⟨b, off + k, none⟩) (by show b < _; have := HW1.out.size; omega)).trans ((HW1.out.cell (p := ⟨b, off + k, none⟩) hb).trans (HC.out k hk)))
  have hbw : b < w1.heap.size := by have := HW1.out.size; omega
  have HZ1 := Lib.hid (HZ.out w1)
  have hzt := hz_hb1
  clear hc_hb1 hf_hb1 hcA_hb1 hfA_hb1 hb1 HC HZ
  go_wp2_with fail
  have H0 : Hid (FaS w1 ((w1.alloc (.cells (madeCells #[.int .i64 0] S) 2)).alloc (.cells #[.int .i64 m, .slice (some ⟨w1.heap.size, 0, none⟩) S S] 43)) (w1.heap.size + 1) w1.heap.size S m (faL O V E 0 ++ List.replicate (S - (faU V E 0).length) 0)) := by
    refine ⟨?_, ?_, HZ1.out.below ((Below.refl _ _).alloc (Nat.le_refl _) _), by omega, ((Below.refl _ w1).alloc (Nat.le_refl _) _).alloc (by simp) _⟩
    · have := World.cell?_alloc_new (w := w1.alloc (.cells (madeCells #[.int .i64 0] S) 2)) #[.int .i64 m, .slice (some ⟨w1.heap.size, 0, none⟩) S S] 43 0
      rw [World.size_alloc] at this
      rw [this]; rfl
    · have := World.cell?_alloc_new (w := w1.alloc (.cells (madeCells #[.int .i64 0] S) 2)) #[.int .i64 m, .slice (some ⟨w1.heap.size, 0, none⟩) S S] 43 1
      rw [World.size_alloc] at this
      rw [this]; rfl
  obtain ⟨W0, hW0⟩ : ∃ W0, W0 = (w1.alloc (.cells (madeCells #[.int .i64 0] S) 2)).alloc (.cells #[.int .i64 m, .slice (some ⟨w1.heap.size, 0, none⟩) S S] 43) := ⟨_, rfl⟩
  obtain ⟨G, hG⟩ : ∃ G, G = w1.heap.size := ⟨_, rfl⟩
  obtain ⟨P, hP⟩ : ∃ P, P = w1.heap.size + 1 := ⟨_, rfl⟩
  have hGle : w1.heap.size ≤ G := by omega
  rw [← hP, ← hW0, ← hG] at H0
  rw [← hP, ← hW0, ← hG]
  clear hP hW0 hG hmk hwm hSi HZ1
  have HFA : Hid (faL O V E O.length ++ List.replicate (S - (faU V E O.length).length) 0 = faL O V E O.length) := by show _ = _; rw [HLN.out]; simp
  go_loopw [11] (fun i wr => ∃ k : Nat, k ≤ O.length ∧ i = .int .i64 k ∧ FaS w1 wr P G S m (faL O V E k ++ List.replicate (S - (faU V E k).length) 0)) (fun i _ => O.length - (intOf i).toNat)
  case atStart => exact ⟨0, Nat.zero_le _, by go_num, H0.out⟩
  case round =>
    obtain ⟨k, hk, rfl, hO⟩ := hrel
    have hB := hO.low
    obtain ⟨y0, y1, y2, y3, y4⟩ := HK.out wr hB
    have p0 := hO.c0
    have p1 := hO.c1
    by_cases hlt : k < O.length
    · have t1 := HCC.out wr hB k hlt
      obtain ⟨x, hx⟩ : ∃ x, O.getD k 0 = x := ⟨_, rfl⟩
      rw [hx] at t1
      obtain ⟨hx1, hy1⟩ := HAN.out k hlt
      have hk63 : (k : Int) ≤ 9223372036854775807 := by omega
      cases hf : faP V E k
      · have hyn : (((andn (k ^^^ V) E : Nat) : Int) == 0) = false := by have := of_decide_eq_false hf; simpa using this
        have HNX := Lib.hid (faL_no (O := O) hf)
        have HNU := Lib.hid (faU_no hf)
        have HO := Lib.hid hO
        clear hO hB hx hf
        generalize k ^^^ V = X at *
        generalize andn X E = Y at *
        go_wp2_with fail
        go_roundw
        case rel => exact ⟨k + 1, by omega, by go_num, by rw [HNX.out, HNU.out]; exact HO.out⟩
        case measure => simp [intOf]; omega
      · have hy2 : bits BinOp.andNot IntKind.i64 ((k ^^^ V : Nat) : Int) (E : Int) = 0 := by rw [hy1, of_decide_eq_true hf]; rfl
        obtain ⟨hr1, hr2⟩ := HRK.out k hf
        have HNX := faL_yes (O := O) hf
        have HNU := faU_yes hf
        have HG1 := Lib.hid (HGA.out (k : Int))
        have HG2 := Lib.hid (HGA.out x)
        obtain ⟨y, hy⟩ : ∃ y, gaI x (E : Int) = y := ⟨_, rfl⟩
        rw [hr1] at HG1
        rw [hy] at HG2
        rw [hx, hy] at HNX
        have hnx := hO.set hGle (faU V E k).length y
        have hll : (faL O V E k).length = (faU V E k).length := by simp [faL]
        have hsz : S - (faU V E k).length = (S - (faU V E (k + 1)).length) + 1 := by rw [HNU, List.length_append]; simp; omega
        rw [← hll, hll, hsz, ← hll, set_zeros, ← HNX] at hnx
        rw [hll] at hnx
        have htop : (faL O V E k ++ List.replicate (S - (faU V E k).length) 0).length = S := by simp [faL]; omega
        have ho := hO.own
        obtain ⟨g', c', hv, f1, f2, f3⟩ := ho
        rw [htop] at hv
        simp only [Value.slice.injEq, Option.some.injEq, Addr.mk.injEq, and_true, true_and] at hv
        obtain ⟨rfl, rfl⟩ := hv
        have z0 : wr.cell? ⟨G, (faU V E k).length, none⟩ = some (.int .i64 ((faL O V E k ++ List.replicate (S - (faU V E k).length) 0).getD (faU V E k).length 0)) := own_cellN f3 htop.symm hr2
        have z1 : wr.frozen? ⟨G, (faU V E k).length, none⟩ = false := own_frozenN f3 htop.symm _
        have HN := Lib.hid hnx
        generalize (faL O V E k ++ List.replicate (S - (faU V E k).length) 0).getD (faU V E k).length 0 = old at *
        generalize (faU V E k).length = c at *
        clear hO hB hx hf hy hy1 hr1 hnx hll hsz htop HNX HNU f1 f2 f3
        generalize k ^^^ V = X at *
        have hc63 : (c : Int) ≤ 9223372036854775807 := by omega
        go_wp2_with fail
        obtain ⟨W, rfl⟩ : ∃ W, W = wr := ⟨_, rfl⟩
        rename_i K0 hK0
        refine (wpIn_wide (n := 8)).1 ?_
        refine PR.wpIn_region_inv hmx (by kernel_rfl) (fun listed ac w' =>
            ∃ (b0 b1 b2 b3 b4 b5 b6 b7 b8 b9 b10 b11 b12 b13 : Bool), ((b1 = true → b0 = true) ∧ (b4 = true → b2 = true ∧ b3 = true) ∧ (b6 = true → b5 = true) ∧ (b8 = true → b6 = true ∧ b7 = true) ∧ (b9 = true → b8 = true) ∧ (b11 = true → b9 = true ∧ b10 = true) ∧ (b12 = true → b1 = true ∧ b4 = true) ∧ (b13 = true → b12 = true ∧ b11 = true)) ∧ listed = #[b0, b1, b2, b3, b4, b5, b6, b7, b8, b9, b10, b11, b12, b13] ∧
              ac = { tmps := #[.agg #[.int .i64 n, .slice (some ⟨b, off, none⟩) O.length cap], .int .i64 V, .int .i64 E, .pointer (some ⟨w.heap.size, 0, none⟩), undef, undef, .pointer (some ⟨w.heap.size + 1, 0, none⟩), .int .i64 0, .int .i64 0, .int .i64 m, .pointer (some ⟨P, 0, none⟩), .int .i64 k, .agg #[.int .i64 n, .slice (some ⟨b, off, none⟩) O.length cap], .int .i64 V, .int .i64 E, .slice (some ⟨w.heap.size + 1 + 1, 0, none⟩) 2 2, .int .i64 0, .int .i64 0, .bool true, .bool true, .int .i64 E, .bool false, .bool false, .int .i64 0, .bool false, undef, undef, .int .i64 E, .int .i64 m, .int .i64 m, .int .i64 m, .int .u64 m, .int .i64 S, .slice (some ⟨G, 0, none⟩) S S, .agg #[.int .i64 m, .slice (some ⟨G, 0, none⟩) S S], .int .i64 k, .pointer (some ⟨w.heap.size, 1, none⟩), .slice (some ⟨b, off, none⟩) O.length cap, .int .i64 O.length, .bool true, u40, u41, .int .i64 k, .int .i64 V, .int .i64 X, .int .i64 E, .int .i64 0, .bool true, cond b0 (.pointer (some ⟨P, 1, none⟩)) (u48), cond b1 (.slice (some ⟨G, 0, none⟩) S S) (u49), cond b2 (.int .i64 k) (u50), cond b3 (.int .i64 E) (u51), cond b4 (.int .i64 c) (u52), cond b5 (.pointer (some ⟨w.heap.size, 1, none⟩)) (u53), cond b6 (.slice (some ⟨b, off, none⟩) O.length cap) (u54), cond b7 (.int .i64 k) (u55), cond b8 (.pointer (some ⟨b, off + k, none⟩)) (u56), cond b9 (.int .i64 x) (u57), cond b10 (.int .i64 E) (u58), cond b11 (.int .i64 y) (u59), cond b12 (.pointer (some ⟨G, c, none⟩)) (u60), undef], defers := [] } ∧ Hid (w' = cond b13 (W.drew.setCell ⟨G, c, none⟩ (.int .i64 y)) W.drew)) ?_ ?_ ?_ ?_
        · rintro listed ac w' ⟨b0, b1, b2, b3, b4, b5, b6, b7, b8, b9, b10, b11, b12, b13, _, rfl, _⟩
          rfl
        · rintro listed ac w' ⟨b0, b1, b2, b3, b4, b5, b6, b7, b8, b9, b10, b11, b12, b13, _, rfl, rfl, hR⟩ hall
          have h0 := hall 0 (by simp)
          have h1 := hall 1 (by simp)
          have h2 := hall 2 (by simp)
          have h3 := hall 3 (by simp)
          have h4 := hall 4 (by simp)
          have h5 := hall 5 (by simp)
          have h6 := hall 6 (by simp)
          have h7 := hall 7 (by simp)
          have h8 := hall 8 (by simp)
          have h9 := hall 9 (by simp)
          have h10 := hall 10 (by simp)
          have h11 := hall 11 (by simp)
          have h12 := hall 12 (by simp)
          have h13 := hall 13 (by simp)
          simp at h0 h1 h2 h3 h4 h5 h6 h7 h8 h9 h10 h11 h12 h13
          subst h0 h1 h2 h3 h4 h5 h6 h7 h8 h9 h10 h11 h12 h13
          clear hall
          refine hK0 _ _ ?_
          simp only [cond_true]
          have hQ := hR.out
          simp only [cond_true] at hQ
          subst hQ
          clear hR
          clear p0 p1 y0 y1 y2 y3 y4 t1 z0 z1
          go_wp2_with fail
          go_roundw
          case rel => exact ⟨k + 1, by omega, by go_num, HN.out⟩
          case measure => simp [intOf]; omega
        · exact ⟨false, false, false, false, false, false, false, false, false, false, false, false, false, false, by simp, rfl, rfl, rfl⟩
        · rintro listed ac w' i oi ⟨b0, b1, b2, b3, b4, b5, b6, b7, b8, b9, b10, b11, b12, b13, ⟨e1, e4, e6, e8, e9, e11, e12, e13⟩, rfl, rfl, hR⟩ ho hun hdep
          have hi : i < 14 := by simpa using (Array.getElem?_eq_some_iff.1 ho).1
          obtain rfl | rfl | rfl | rfl | rfl | rfl | rfl | rfl | rfl | rfl | rfl | rfl | rfl | rfl : i = 0 ∨ i = 1 ∨ i = 2 ∨ i = 3 ∨ i = 4 ∨ i = 5 ∨ i = 6 ∨ i = 7 ∨ i = 8 ∨ i = 9 ∨ i = 10 ∨ i = 11 ∨ i = 12 ∨ i = 13 := by omega
          · -- 0
            simp only [List.getElem?_toArray, List.getElem?_cons_zero, Option.some.injEq] at ho
            subst ho
            have hbi : b0 = false := by simpa using hun
            subst hbi
            obtain rfl : b1 = false := Bool.eq_false_iff.2 (fun h => Bool.noConfusion (e1 h))
            obtain rfl : b12 = false := Bool.eq_false_iff.2 (fun h => Bool.noConfusion (e12 h).1)
            obtain rfl : b13 = false := Bool.eq_false_iff.2 (fun h => Bool.noConfusion (e13 h).1)
            refine wpOpIn_step rfl (fun K hK => ?_)
            clear hun hdep hi
            go_simp
            refine hK _ _ ⟨true, false, b2, b3, b4, b5, b6, b7, b8, b9, b10, b11, false, false, ⟨fun h => Bool.noConfusion h, e4, e6, e8, e9, e11, fun h => Bool.noConfusion h, fun h => Bool.noConfusion h⟩, rfl, rfl, hR⟩
          · -- 1
            simp only [List.getElem?_toArray, List.getElem?_cons_succ, List.getElem?_cons_zero, Option.some.injEq] at ho
            subst ho
            have hbi : b1 = false := by simpa using hun
            subst hbi
            have hd0 : b0 = true := by have := hdep ⟨0, .data⟩ (by simp) rfl; simpa using this
            subst hd0
            obtain rfl : b12 = false := Bool.eq_false_iff.2 (fun h => Bool.noConfusion (e12 h).1)
            obtain rfl : b13 = false := Bool.eq_false_iff.2 (fun h => Bool.noConfusion (e13 h).1)
            refine wpOpIn_step rfl (fun K hK => ?_)
            clear hun hdep hi
            have hQ := hR.out
            simp only [cond_false] at hQ
            subst hQ
            go_simp
            refine hK _ _ ⟨true, true, b2, b3, b4, b5, b6, b7, b8, b9, b10, b11, false, false, ⟨fun _ => rfl, e4, e6, e8, e9, e11, fun h => Bool.noConfusion h, fun h => Bool.noConfusion h⟩, rfl, rfl, hR⟩
          · -- 2
            simp only [List.getElem?_toArray, List.getElem?_cons_succ, List.getElem?_cons_zero, Option.some.injEq] at ho
            subst ho
            have hbi : b2 = false := by simpa using hun
            subst hbi
            obtain rfl : b4 = false := Bool.eq_false_iff.2 (fun h => Bool.noConfusion (e4 h).1)
            obtain rfl : b12 = false := Bool.eq_false_iff.2 (fun h => Bool.noConfusion (e12 h).2)
            obtain rfl : b13 = false := Bool.eq_false_iff.2 (fun h => Bool.noConfusion (e13 h).1)
            refine wpOpIn_step rfl (fun K hK => ?_)
            clear hun hdep hi
            go_simp
            refine hK _ _ ⟨b0, b1, true, b3, false, b5, b6, b7, b8, b9, b10, b11, false, false, ⟨e1, fun h => Bool.noConfusion h, e6, e8, e9, e11, fun h => Bool.noConfusion h, fun h => Bool.noConfusion h⟩, rfl, rfl, hR⟩
          · -- 3
            simp only [List.getElem?_toArray, List.getElem?_cons_succ, List.getElem?_cons_zero, Option.some.injEq] at ho
            subst ho
            have hbi : b3 = false := by simpa using hun
            subst hbi
            obtain rfl : b4 = false := Bool.eq_false_iff.2 (fun h => Bool.noConfusion (e4 h).2)
            obtain rfl : b12 = false := Bool.eq_false_iff.2 (fun h => Bool.noConfusion (e12 h).2)
            obtain rfl : b13 = false := Bool.eq_false_iff.2 (fun h => Bool.noConfusion (e13 h).1)
            refine wpOpIn_step rfl (fun K hK => ?_)
            clear hun hdep hi
            go_simp
            refine hK _ _ ⟨b0, b1, b2, true, false, b5, b6, b7, b8, b9, b10, b11, false, false, ⟨e1, fun h => Bool.noConfusion h, e6, e8, e9, e11, fun h => Bool.noConfusion h, fun h => Bool.noConfusion h⟩, rfl, rfl, hR⟩
          · -- 4
            simp only [List.getElem?_toArray, List.getElem?_cons_succ, List.getElem?_cons_zero, Option.some.injEq] at ho
            subst ho
            have hbi : b4 = false := by simpa using hun
            subst hbi
            have hd2 : b2 = true := by have := hdep ⟨2, .data⟩ (by simp) rfl; simpa using this
            have hd3 : b3 = true := by have := hdep ⟨3, .data⟩ (by simp) rfl; simpa using this
            subst hd2 hd3
            obtain rfl : b12 = false := Bool.eq_false_iff.2 (fun h => Bool.noConfusion (e12 h).2)
            obtain rfl : b13 = false := Bool.eq_false_iff.2 (fun h => Bool.noConfusion (e13 h).1)
            refine wpOpIn_step rfl (fun K hK => ?_)
            clear hun hdep hi
            go_simp
            refine ⟨trivial, (callsIn_wide.2 (HG1.out w')).mono ?_⟩
            rintro e w'' ⟨rfl, rfl⟩
            refine hK _ _ ⟨b0, b1, true, true, true, b5, b6, b7, b8, b9, b10, b11, false, false, ⟨e1, fun _ => ⟨rfl, rfl⟩, e6, e8, e9, e11, fun h => Bool.noConfusion h, fun h => Bool.noConfusion h⟩, rfl, rfl, hR⟩
          · -- 5
            simp only [List.getElem?_toArray, List.getElem?_cons_succ, List.getElem?_cons_zero, Option.some.injEq] at ho
            subst ho
            have hbi : b5 = false := by simpa using hun
            subst hbi
            obtain rfl : b6 = false := Bool.eq_false_iff.2 (fun h => Bool.noConfusion (e6 h))
            obtain rfl : b8 = false := Bool.eq_false_iff.2 (fun h => Bool.noConfusion (e8 h).1)
            obtain rfl : b9 = false := Bool.eq_false_iff.2 (fun h => Bool.noConfusion (e9 h))
            obtain rfl : b11 = false := Bool.eq_false_iff.2 (fun h => Bool.noConfusion (e11 h).1)
            obtain rfl : b13 = false := Bool.eq_false_iff.2 (fun h => Bool.noConfusion (e13 h).2)
            refine wpOpIn_step rfl (fun K hK => ?_)
            clear hun hdep hi
            go_simp
            refine hK _ _ ⟨b0, b1, b2, b3, b4, true, false, b7, false, false, b10, false, b12, false, ⟨e1, e4, fun h => Bool.noConfusion h, fun h => Bool.noConfusion h, fun h => Bool.noConfusion h, fun h => Bool.noConfusion h, e12, fun h => Bool.noConfusion h⟩, rfl, rfl, hR⟩
          · -- 6
            simp only [List.getElem?_toArray, List.getElem?_cons_succ, List.getElem?_cons_zero, Option.some.injEq] at ho
            subst ho
            have hbi : b6 = false := by simpa using hun
            subst hbi
            have hd5 : b5 = true := by have := hdep ⟨5, .data⟩ (by simp) rfl; simpa using this
            subst hd5
            obtain rfl : b8 = false := Bool.eq_false_iff.2 (fun h => Bool.noConfusion (e8 h).1)
            obtain rfl : b9 = false := Bool.eq_false_iff.2 (fun h => Bool.noConfusion (e9 h))
            obtain rfl : b11 = false := Bool.eq_false_iff.2 (fun h => Bool.noConfusion (e11 h).1)
            obtain rfl : b13 = false := Bool.eq_false_iff.2 (fun h => Bool.noConfusion (e13 h).2)
            refine wpOpIn_step rfl (fun K hK => ?_)
            clear hun hdep hi
            have hQ := hR.out
            simp only [cond_false] at hQ
            subst hQ
            go_simp
            refine hK _ _ ⟨b0, b1, b2, b3, b4, true, true, b7, false, false, b10, false, b12, false, ⟨e1, e4, fun _ => rfl, fun h => Bool.noConfusion h, fun h => Bool.noConfusion h, fun h => Bool.noConfusion h, e12, fun h => Bool.noConfusion h⟩, rfl, rfl, hR⟩
          · -- 7
            simp only [List.getElem?_toArray, List.getElem?_cons_succ, List.getElem?_cons_zero, Option.some.injEq] at ho
            subst ho
            have hbi : b7 = false := by simpa using hun
            subst hbi
            obtain rfl : b8 = false := Bool.eq_false_iff.2 (fun h => Bool.noConfusion (e8 h).2)
            obtain rfl : b9 = false := Bool.eq_false_iff.2 (fun h => Bool.noConfusion (e9 h))
            obtain rfl : b11 = false := Bool.eq_false_iff.2 (fun h => Bool.noConfusion (e11 h).1)
            obtain rfl : b13 = false := Bool.eq_false_iff.2 (fun h => Bool.noConfusion (e13 h).2)
            refine wpOpIn_step rfl (fun K hK => ?_)
            clear hun hdep hi
            go_simp
            refine hK _ _ ⟨b0, b1, b2, b3, b4, b5, b6, true, false, false, b10, false, b12, false, ⟨e1, e4, e6, fun h => Bool.noConfusion h, fun h => Bool.noConfusion h, fun h => Bool.noConfusion h, e12, fun h => Bool.noConfusion h⟩, rfl, rfl, hR⟩
          · -- 8
            simp only [List.getElem?_toArray, List.getElem?_cons_succ, List.getElem?_cons_zero, Option.some.injEq] at ho
            subst ho
            have hbi : b8 = false := by simpa using hun
            subst hbi
            have hd6 : b6 = true := by have := hdep ⟨6, .data⟩ (by simp) rfl; simpa using this
            have hd7 : b7 = true := by have := hdep ⟨7, .data⟩ (by simp) rfl; simpa using this
            have hd5 : b5 = true := (e6 hd6)
            subst hd5 hd6 hd7
            obtain rfl : b9 = false := Bool.eq_false_iff.2 (fun h => Bool.noConfusion (e9 h))
            obtain rfl : b11 = false := Bool.eq_false_iff.2 (fun h => Bool.noConfusion (e11 h).1)
            obtain rfl : b13 = false := Bool.eq_false_iff.2 (fun h => Bool.noConfusion (e13 h).2)
            refine wpOpIn_step rfl (fun K hK => ?_)
            clear hun hdep hi
            go_simp
            refine hK _ _ ⟨b0, b1, b2, b3, b4, true, true, true, true, false, b10, false, b12, false, ⟨e1, e4, fun _ => rfl, fun _ => ⟨rfl, rfl⟩, fun h => Bool.noConfusion h, fun h => Bool.noConfusion h, e12, fun h => Bool.noConfusion h⟩, rfl, rfl, hR⟩
          · -- 9
            simp only [List.getElem?_toArray, List.getElem?_cons_succ, List.getElem?_cons_zero, Option.some.injEq] at ho
            subst ho
            have hbi : b9 = false := by simpa using hun
            subst hbi
            have hd8 : b8 = true := by have := hdep ⟨8, .data⟩ (by simp) rfl; simpa using this
            have hd7 : b7 = true := (e8 hd8).2
            have hd6 : b6 = true := (e8 hd8).1
            have hd5 : b5 = true := (e6 hd6)
            subst hd5 hd6 hd7 hd8
            obtain rfl : b11 = false := Bool.eq_false_iff.2 (fun h => Bool.noConfusion (e11 h).1)
            obtain rfl : b13 = false := Bool.eq_false_iff.2 (fun h => Bool.noConfusion (e13 h).2)
            refine wpOpIn_step rfl (fun K hK => ?_)
            clear hun hdep hi
            have hQ := hR.out
            simp only [cond_false] at hQ
            subst hQ
            go_simp
            refine hK _ _ ⟨b0, b1, b2, b3, b4, true, true, true, true, true, b10, false, b12, false, ⟨e1, e4, fun _ => rfl, fun _ => ⟨rfl, rfl⟩, fun _ => rfl, fun h => Bool.noConfusion h, e12, fun h => Bool.noConfusion h⟩, rfl, rfl, hR⟩
          · -- 10
            simp only [List.getElem?_toArray, List.getElem?_cons_succ, List.getElem?_cons_zero, Option.some.injEq] at ho
            subst ho
            have hbi : b10 = false := by simpa using hun
            subst hbi
            obtain rfl : b11 = false := Bool.eq_false_iff.2 (fun h => Bool.noConfusion (e11 h).2)
            obtain rfl : b13 = false := Bool.eq_false_iff.2 (fun h => Bool.noConfusion (e13 h).2)
            refine wpOpIn_step rfl (fun K hK => ?_)
            clear hun hdep hi
            go_simp
            refine hK _ _ ⟨b0, b1, b2, b3, b4, b5, b6, b7, b8, b9, true, false, b12, false, ⟨e1, e4, e6, e8, e9, fun h => Bool.noConfusion h, e12, fun h => Bool.noConfusion h⟩, rfl, rfl, hR⟩
          · -- 11
            simp only [List.getElem?_toArray, List.getElem?_cons_succ, List.getElem?_cons_zero, Option.some.injEq] at ho
            subst ho
            have hbi : b11 = false := by simpa using hun
            subst hbi
            have hd9 : b9 = true := by have := hdep ⟨9, .data⟩ (by simp) rfl; simpa using this
            have hd10 : b10 = true := by have := hdep ⟨10, .data⟩ (by simp) rfl; simpa using this
            have hd8 : b8 = true := (e9 hd9)
            have hd7 : b7 = true := (e8 hd8).2
            have hd6 : b6 = true := (e8 hd8).1
            have hd5 : b5 = true := (e6 hd6)
            subst hd5 hd6 hd7 hd8 hd9 hd10
            obtain rfl : b13 = false := Bool.eq_false_iff.2 (fun h => Bool.noConfusion (e13 h).2)
            refine wpOpIn_step rfl (fun K hK => ?_)
            clear hun hdep hi
            go_simp
            refine ⟨trivial, (callsIn_wide.2 (HG2.out w')).mono ?_⟩
            rintro e w'' ⟨rfl, rfl⟩
            refine hK _ _ ⟨b0, b1, b2, b3, b4, true, true, true, true, true, true, true, b12, false, ⟨e1, e4, fun _ => rfl, fun _ => ⟨rfl, rfl⟩, fun _ => rfl, fun _ => ⟨rfl, rfl⟩, e12, fun h => Bool.noConfusion h⟩, rfl, rfl, hR⟩
          · -- 12
            simp only [List.getElem?_toArray, List.getElem?_cons_succ, List.getElem?_cons_zero, Option.some.injEq] at ho
            subst ho
            have hbi : b12 = false := by simpa using hun
            subst hbi
            have hd1 : b1 = true := by have := hdep ⟨1, .data⟩ (by simp) rfl; simpa using this
            have hd4 : b4 = true := by have := hdep ⟨4, .data⟩ (by simp) rfl; simpa using this
            have hd3 : b3 = true := (e4 hd4).2
            have hd2 : b2 = true := (e4 hd4).1
            have hd0 : b0 = true := (e1 hd1)
            subst hd0 hd1 hd2 hd3 hd4
            obtain rfl : b13 = false := Bool.eq_false_iff.2 (fun h => Bool.noConfusion (e13 h).1)
            refine wpOpIn_step rfl (fun K hK => ?_)
            clear hun hdep hi
            go_simp
            refine hK _ _ ⟨true, true, true, true, true, b5, b6, b7, b8, b9, b10, b11, true, false, ⟨fun _ => rfl, fun _ => ⟨rfl, rfl⟩, e6, e8, e9, e11, fun _ => ⟨rfl, rfl⟩, fun h => Bool.noConfusion h⟩, rfl, rfl, hR⟩
          · -- 13
            simp only [List.getElem?_toArray, List.getElem?_cons_succ, List.getElem?_cons_zero, Option.some.injEq] at ho
            subst ho
            have hbi : b13 = false := by simpa using hun
            subst hbi
            have hd11 : b11 = true := by have := hdep ⟨11, .data⟩ (by simp) rfl; simpa using this
            have hd12 : b12 = true := by have := hdep ⟨12, .data⟩ (by simp) rfl; simpa using this
            have hd10 : b10 = true := (e11 hd11).2
            have hd9 : b9 = true := (e11 hd11).1
            have hd8 : b8 = true := (e9 hd9)
            have hd7 : b7 = true := (e8 hd8).2
            have hd6 : b6 = true := (e8 hd8).1
            have hd5 : b5 = true := (e6 hd6)
            have hd4 : b4 = true := (e12 hd12).2
            have hd3 : b3 = true := (e4 hd4).2
            have hd2 : b2 = true := (e4 hd4).1
            have hd1 : b1 = true := (e12 hd12).1
            have hd0 : b0 = true := (e1 hd1)
            subst hd0 hd1 hd2 hd3 hd4 hd5 hd6 hd7 hd8 hd9 hd10 hd11 hd12
            refine wpOpIn_step rfl (fun K hK => ?_)
            clear hun hdep hi
            have hQ := hR.out
            simp only [cond_false] at hQ
            subst hQ
            go_simp
            refine hK _ _ ⟨true, true, true, true, true, true, true, true, true, true, true, true, true, true, ⟨fun _ => rfl, fun _ => ⟨rfl, rfl⟩, fun _ => rfl, fun _ => ⟨rfl, rfl⟩, fun _ => rfl, fun _ => ⟨rfl, rfl⟩, fun _ => ⟨rfl, rfl⟩, fun _ => ⟨rfl, rfl⟩⟩, rfl, rfl, rfl⟩
    · obtain rfl : k = O.length := by omega
      have HO := Lib.hid (show FaS w1 wr P G S m (faL O V E O.length) by rw [← HFA.out]; exact hO)
      clear hO hB hlt hk
      go_wp2_with fail
      refine bodyPost_ret (v := .tuple #[.agg #[.int .i64 m, .slice (some ⟨G, 0, none⟩) S S], .int .i64 0]) (by simp [*, results, Try.results43, go_sem]) rfl ?_
      have ht : Tch [w.heap.size + 1] wr ((wr.setCell ⟨w.heap.size + 1, 0, none⟩ (.int .i64 m)).setCell ⟨w.heap.size + 1, 1, none⟩ (.slice (some ⟨G, 0, none⟩) S S)) := ((Tch.refl _ _).setCell (by simp) _).setCell (by simp) _
      obtain ⟨g', c', hv, f1, f2, f3⟩ := HO.out.own
      simp only [Value.slice.injEq, Option.some.injEq, Addr.mk.injEq, and_true] at hv
      obtain ⟨rfl, _, rfl⟩ := hv
      exact ⟨_, rfl, ⟨f3.tch ht (fun b hb c => by simp [Value.ownBlock] at hb c; omega), fun b hb => by simp [Value.ownBlock] at hb; subst hb; exact ⟨by omega, by simpa using f2⟩⟩, (HW1.out.trans (HO.out.low.mono HW1.out.size)).trans (ht.below (fun b hb => by simp at hb; omega))⟩
end Go.Proofs.Ytlccdnpicfmeaaa.PW
