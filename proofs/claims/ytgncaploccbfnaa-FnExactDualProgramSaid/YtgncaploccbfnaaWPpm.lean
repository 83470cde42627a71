/-
  ProgramProblem: the program's side.
-/
import Derived.Test.YtgncaploccbfnaaWPpo
import Derived.Test.YtgncaploccbfnaaWCat
import Derived.Test.YtgncaploccbfnaaWSlo
namespace Go.Proofs.Ytgncaploccbfnaa.PW
open Go.RowKit Go.Proofs.Ytgncaploccbfnaa
open Go.Proofs.Ytgncaploccbfnaa.PM
attribute [local go_sem] Oper.semAt_some

def negL (B : List Int) : List Int := B.map fun x => -x
theorem negL_mul (B : List Int) : ((List.range B.length).map fun i => (-1 : Int) * B.getD i 0) = negL B := by
  unfold negL
  apply List.ext_getElem (by simp)
  intro i h1 h2
  have hi : i < B.length := by simpa using h1
  simp [hi]
theorem mulneg_any (v : Value) (B : List Int) (w : World) (hv : Ints w v B) (hn : B.length ≤ 5) (hb : ∀ j, j < B.length → -100 ≤ B.getD j 0 ∧ B.getD j 0 ≤ 100) :
    Calls Try.prog 100 #[v, .int .i64 (-1)] w fun e w' => ∃ g, e = .returned (.slice (some ⟨g, 0, none⟩) B.length B.length) ∧ w.heap.size ≤ g ∧ g < w'.heap.size ∧ (∀ k, k < B.length → w'.cell? ⟨g, k, none⟩ = some (.int .i64 ((negL B).getD k 0))) ∧ Below w.heap.size w w' := by
  by_cases h1 : 1 ≤ B.length
  · refine (multiplesOf_any v B (-1) w hv h1 (by omega) (fun i hi => by have := hb i hi; omega)).mono ?_
    rintro e w' ⟨g, rfl, hf, hbl⟩
    rw [negL_mul] at hf
    obtain ⟨g', c', hg, f1, f2, f3⟩ := hf
    simp at hg
    obtain ⟨rfl, _⟩ := hg
    exact ⟨g, rfl, f1, f2, fun k hk => own_cellN f3 (by simp [negL]) hk, hbl⟩
  · have h0 : B.length = 0 := by omega
    obtain ⟨a, c, rfl, _⟩ := hv
    refine (multiplesOf_nil a c B.length (-1) w h0).mono ?_
    rintro e w' ⟨g, rfl, f1, f2, hbl⟩
    exact ⟨g, rfl, f1, f2, fun k hk => by omega, hbl⟩
theorem catneg_any (bs b1 o1 c1 b2 c2 n m : Nat) (X Y : List Int) (w : World) (hn : n = X.length) (hm : m = Y.length) (hn1 : 1 ≤ n) (hn2 : n ≤ 100) (hm2 : m ≤ 100)
    (hb1 : b1 < w.heap.size) (hx : ∀ k, k < n → w.cell? ⟨b1, o1 + k, none⟩ = some (.int .i64 (X.getD k 0))) (hb2 : b2 < w.heap.size) (hy : ∀ k, k < m → w.cell? ⟨b2, k, none⟩ = some (.int .i64 (Y.getD k 0)))
    (hbs : bs < w.heap.size) (hs0 : w.cell? ⟨bs, 0, none⟩ = some (.slice (some ⟨b1, o1, none⟩) n c1)) (hs1 : w.cell? ⟨bs, 1, none⟩ = some (.slice (some ⟨b2, 0, none⟩) m c2)) :
    Calls Try.prog 99 #[.slice (some ⟨bs, 0, none⟩) 2 2] w fun e w' => ∃ g cap, e = .returned (.slice (some ⟨g, 0, none⟩) (n + m) cap) ∧ FreshI w.heap.size w' (.slice (some ⟨g, 0, none⟩) (n + m) cap) (X ++ Y) ∧ Below w.heap.size w w' := by
  by_cases h1 : 1 ≤ m
  · exact concat_two bs b1 o1 c1 b2 0 c2 n m X Y w hn hm hn1 hn2 h1 hm2 hb1 hx hb2 (fun k hk => by simpa using hy k hk) hbs hs0 hs1
  · obtain rfl : m = 0 := by omega
    have e : Y = [] := List.eq_nil_of_length_eq_zero hm.symm
    rw [e, List.append_nil, Nat.add_zero]
    exact concat_nil bs b1 o1 c1 c2 n ⟨b2, 0, none⟩ X w hn hn1 hn2 hb1 hx hbs hs0 hs1

/-- The boxes: the program, and the problem that is answered. -/
structure Wp (w wr : World) (p0 p1 p2 p3 : Value) : Prop where
  b : Below w.heap.size w wr
  k0 : wr.cell? ⟨w.heap.size, 0, none⟩ = some p0
  k1 : wr.cell? ⟨w.heap.size, 1, none⟩ = some p1
  k2 : wr.cell? ⟨w.heap.size, 2, none⟩ = some p2
  k3 : wr.cell? ⟨w.heap.size, 3, none⟩ = some p3
  r0 : wr.cell? ⟨w.heap.size + 1, 0, none⟩ = some (.slice none 0 0)
  r1 : wr.cell? ⟨w.heap.size + 1, 1, none⟩ = some (.slice none 0 0)
  f : ∀ o, wr.frozen? ⟨w.heap.size + 1, o, none⟩ = false
  z : w.heap.size + 1 < wr.heap.size
theorem Wp.next {w wr wq : World} {p0 p1 p2 p3 : Value} (h : Wp w wr p0 p1 p2 p3) (hb : Below wr.heap.size wr wq) : Wp w wq p0 p1 p2 p3 := by
  obtain ⟨hw, k0, k1, k2, k3, r0, r1, f, hz⟩ := h
  exact ⟨hw.trans (hb.mono hw.size), (hb.cell (p := ⟨w.heap.size, 0, none⟩) (by show w.heap.size < _; omega)).trans k0, (hb.cell (p := ⟨w.heap.size, 1, none⟩) (by show w.heap.size < _; omega)).trans k1,
    (hb.cell (p := ⟨w.heap.size, 2, none⟩) (by show w.heap.size < _; omega)).trans k2, (hb.cell (p := ⟨w.heap.size, 3, none⟩) (by show w.heap.size < _; omega)).trans k3,
    (hb.cell (p := ⟨w.heap.size + 1, 0, none⟩) hz).trans r0, (hb.cell (p := ⟨w.heap.size + 1, 1, none⟩) hz).trans r1, fun o => (hb.frozen (p := ⟨w.heap.size + 1, o, none⟩) hz).trans (f o), Nat.lt_of_lt_of_le hz hb.size⟩
theorem wp_new (w : World) (p0 p1 p2 p3 : Value) (T S : TypeId) : Wp w ((w.alloc (.cells #[p0, p1, p2, p3] T)).alloc (.cells #[.slice none 0 0, .slice none 0 0] S)) p0 p1 p2 p3 := by
  refine ⟨((Below.refl _ _).alloc (Nat.le_refl _) _).alloc (by simp) _, by simp, by simp, by simp, by simp, by simp, by simp, fun o => by simp, by simp⟩
theorem outPp_err {w w' : World} {c : Int} (h : Below w.heap.size w w') : OutP w ([], [], c) (.returned (.tuple #[.agg #[.slice none 0 0, .slice none 0 0], .int .i64 c])) w' :=
  ⟨_, _, [], rfl, ownP_nil _ _, h⟩

/-- What has been laid while the last region is walked: B's numbers with the other sign, the list of two lists, the joined list, the answer. -/
structure PpmR (W w' : World) (P BC o1 n c1 X N m : Nat) (C Y : List Int) (gm hb gq cq : Nat) (b5 b6 b7 b9 : Bool) : Prop where
  low : b9 = false → Below W.heap.size W w'
  mul : b5 = true → b7 = false → W.heap.size ≤ gm ∧ gm < w'.heap.size ∧ ∀ k, k < m → w'.cell? ⟨gm, k, none⟩ = some (.int .i64 (Y.getD k 0))
  box : b6 = true → b7 = false → hb < w'.heap.size ∧ w'.cell? ⟨hb, 0, none⟩ = some (.slice (some ⟨BC, o1, none⟩) n c1) ∧ w'.cell? ⟨hb, 1, none⟩ = some (.slice (some ⟨gm, 0, none⟩) m m)
  cat : b7 = true → b9 = false → FreshI W.heap.size w' (.slice (some ⟨gq, 0, none⟩) (n + m) cq) (C ++ Y)
  fin : b9 = true → ∃ w'', Below W.heap.size W w'' ∧ FreshI W.heap.size w'' (.slice (some ⟨gq, 0, none⟩) (n + m) cq) (C ++ Y) ∧ w' = (w''.setCell ⟨P, 0, none⟩ (.slice (some ⟨X, 0, none⟩) N N)).setCell ⟨P, 1, none⟩ (.slice (some ⟨gq, 0, none⟩) (n + m) cq)
section
variable {W w' w'' : World} {P BC o1 n c1 X N m : Nat} {C Y : List Int} {gm hb gq cq : Nat}
theorem PpmR.call_ (h : PpmR W w' P BC o1 n c1 X N m C Y gm hb gq cq false false false false) {g : Nat} (q1 : w'.heap.size ≤ g) (q2 : g < w''.heap.size) (q3 : ∀ k, k < m → w''.cell? ⟨g, k, none⟩ = some (.int .i64 (Y.getD k 0))) (q4 : Below w'.heap.size w' w'') :
    PpmR W w'' P BC o1 n c1 X N m C Y g hb gq cq true false false false :=
  have hl := h.low rfl
  ⟨fun _ => hl.trans (q4.mono hl.size), fun _ _ => ⟨Nat.le_trans hl.size q1, q2, q3⟩, fun e => Bool.noConfusion e, fun e => Bool.noConfusion e, fun e => Bool.noConfusion e⟩
theorem PpmR.box_ (h : PpmR W w' P BC o1 n c1 X N m C Y gm hb gq cq true false false false) :
    PpmR W (w'.alloc (.cells #[.slice (some ⟨BC, o1, none⟩) n c1, .slice (some ⟨gm, 0, none⟩) m m] 23)) P BC o1 n c1 X N m C Y gm w'.heap.size gq cq true true false false := by
  have hl := h.low rfl
  obtain ⟨q1, q2, q3⟩ := h.mul rfl rfl
  have ha : Below w'.heap.size w' (w'.alloc (.cells #[.slice (some ⟨BC, o1, none⟩) n c1, .slice (some ⟨gm, 0, none⟩) m m] 23)) := (Below.refl _ _).alloc (Nat.le_refl _) _
  exact ⟨fun _ => hl.trans (ha.mono hl.size), fun _ _ => ⟨q1, Nat.lt_of_lt_of_le q2 ha.size, fun k hk => (ha.cell (p := ⟨gm, k, none⟩) q2).trans (q3 k hk)⟩, fun _ _ => ⟨by simp, by simp [go_sem], by simp [go_sem]⟩, fun e => Bool.noConfusion e, fun e => Bool.noConfusion e⟩
theorem PpmR.cat_ (h : PpmR W w' P BC o1 n c1 X N m C Y gm hb gq cq true true false false) {g cap : Nat} (q1 : FreshI w'.heap.size w'' (.slice (some ⟨g, 0, none⟩) (n + m) cap) (C ++ Y)) (q2 : Below w'.heap.size w' w'') :
    PpmR W w'' P BC o1 n c1 X N m C Y gm hb g cap true true true false :=
  have hl := h.low rfl
  ⟨fun _ => hl.trans (q2.mono hl.size), fun _ e => Bool.noConfusion e, fun _ e => Bool.noConfusion e, fun _ _ => q1.mono hl.size, fun e => Bool.noConfusion e⟩
theorem PpmR.store_ (h : PpmR W w' P BC o1 n c1 X N m C Y gm hb gq cq true true true false) :
    PpmR W ((w'.setCell ⟨P, 0, none⟩ (.slice (some ⟨X, 0, none⟩) N N)).setCell ⟨P, 1, none⟩ (.slice (some ⟨gq, 0, none⟩) (n + m) cq)) P BC o1 n c1 X N m C Y gm hb gq cq true true true true :=
  ⟨fun e => Bool.noConfusion e, fun _ e => Bool.noConfusion e, fun _ e => Bool.noConfusion e, fun _ e => Bool.noConfusion e, fun _ => ⟨_, h.low rfl, h.cat rfl rfl, rfl⟩⟩
end

set_option maxRecDepth 100000 in
set_option maxHeartbeats 4000000 in
theorem implProgramProblem_p (d c a b : Value) (D : List (List Int)) (C : List Int) (A : List (List Int)) (B : List Int) (w : World) (h1 : PM.Rows w d D) (h2 : Ints w c C) (h3 : PM.Rows w a A) (h4 : Ints w b B) (hs : szWn D C A B ≤ 1048576) :
    Calls Try.prog 42 #[.agg #[d, c, a, b]] w (OutP w (ppOut D C A B)) := by
  have HIS := Lib.hid (fun (w' : World) (h : Below w.heap.size w w') => implIsProgram_any d c a b D C A B w' (h1.below h) (h2.below h) (h3.below h) (h4.below h) hs)
  clear hs
  obtain ⟨W0, hW0⟩ : ∃ W0, W0 = (w.alloc (.cells #[d, c, a, b] 54)).alloc (.cells #[.slice none 0 0, .slice none 0 0] 27) := ⟨_, rfl⟩
  have HG0 : Hid (Wp w W0 d c a b) := by rw [hW0]; exact wp_new _ _ _ _ _ _ _
  cases hc : isWB D C A B
  · rw [ppOut_no hc]
    rw [hc] at HIS
    obtain ⟨x1, y1, rfl, _⟩ := h1
    obtain ⟨x2, y2, rfl, _⟩ := h2
    obtain ⟨x3, y3, rfl, _⟩ := h3
    obtain ⟨x4, y4, rfl, _⟩ := h4
    have HW0 := Lib.hid hW0
    clear hc hW0
    have k0 := HG0.out.k0
    have k1 := HG0.out.k1
    have k2 := HG0.out.k2
    have k3 := HG0.out.k3
    go_enter Try.func42, Try.ntmps42
    go_wp2_with fail
    rw [← HW0.out]
    refine (HIS.out _ HG0.out.b).mono ?_; rintro e w1 ⟨rfl, hBC⟩
    obtain ⟨hw1, k0, k1, k2, k3, r0, r1, f, hz1⟩ := HG0.out.next hBC
    clear hBC
    go_wp2_with fail
    refine bodyPost_ret (v := .tuple #[.agg #[.slice none 0 0, .slice none 0 0], .int .i64 1]) (by simp [*, results, Try.results42, go_sem]) rfl ?_
    exact outPp_err (by (repeat' (first | (with_reducible exact Below.refl _ _) | (with_reducible assumption) | (with_reducible refine Below.alloc ?_ ?_ _) | (with_reducible refine Below.drew ?_) | (with_reducible refine below_drewN ?_ _) | (with_reducible refine Below.setCell ?_ ?_ _) | (with_reducible refine Below.trans ?_ (Below.mono (by with_reducible assumption) ?_)) | (with_reducible exact Below.size (by with_reducible assumption)) | go_size)))
  · rw [ppOut_ok hc]
    rw [hc] at HIS
    have hW := (isWB_is D C A B).1 hc
    obtain ⟨BD, off, cd, hd, hBD, hT⟩ := tabW_at (l := C.length) h1 (by rw [hW.d]; exact hW.n1) hW.n1 (fun i hi => hW.dr i (by rw [← hW.d]; exact hi))
    rw [hW.d] at hd hT
    subst hd
    have hTA : 1 ≤ B.length → ∃ b2 off2 c2, a = .slice (some ⟨b2, off2, none⟩) B.length c2 ∧ TabW w b2 off2 B.length C.length A := fun hm => by
      obtain ⟨b2, off2, c2, e, _, h⟩ := tabW_at (l := C.length) h3 (by rw [hW.a]; exact hm) hW.n1 (fun i hi => hW.ar i (by rw [← hW.a]; exact hi))
      rw [hW.a] at e h
      exact ⟨b2, off2, c2, e, h⟩
    obtain ⟨BC, o1, c1, rfl, hBC, hcs⟩ := wints_row h2 hW.n1
    obtain ⟨x3, y3, hx3, _⟩ := h3
    rw [hW.a] at hx3
    subst hx3
    have HMU := Lib.hid (fun (w' : World) (h : Below w.heap.size w w') => mulneg_any b B w' (h4.below h) (by have := hW.n5; omega) hW.b)
    obtain ⟨x4, y4, rfl, _⟩ := h4
    have HCS := Lib.hid hcs
    have HT := Lib.hid (fun (w' : World) (Bk Bg : Nat) (h : Below w.heap.size w w') d0 d1 d2 => pp_tells (w := w') (Bk := Bk) (Bg := Bg) (c := cd) (av := .slice x3 B.length y3) hW.n5 (hT.below h) (fun hm => by
      obtain ⟨b2, off2, c2, e, h'⟩ := hTA hm
      exact ⟨b2, off2, c2, e, h'.below h⟩) hW.ak d0 d1 d2)
    have hn1 := hW.n1
    have hn5 := hW.n5
    clear h1 h2 hc hW hT hTA hcs
    obtain ⟨Y, hY⟩ : ∃ Y, Y = negL B := ⟨_, rfl⟩
    have hYl : Y.length = B.length := by rw [hY]; simp [negL]
    have hPQ : ppQ C B = C ++ Y := by rw [hY]; rfl
    rw [hPQ]
    rw [← hY] at HMU
    clear hPQ hY
    obtain ⟨g, hg⟩ : ∃ g, g = ppG D A C.length := ⟨_, rfl⟩
    rw [← hg] at HT ⊢
    clear hg
    obtain ⟨m, hm⟩ : ∃ m, m = B.length := ⟨_, rfl⟩
    obtain ⟨n, hn⟩ : ∃ n, n = C.length := ⟨_, rfl⟩
    rw [← hm] at HT HMU hYl hn5 hW0 HG0 HIS ⊢
    rw [← hn] at HT hn1 hn5 hW0 HG0 HIS ⊢
    have HN := Lib.hid hn
    have HYL := Lib.hid hYl
    have HW0 := Lib.hid hW0
    clear hm hn hYl hW0
    obtain ⟨N, hN⟩ : ∃ N, N = n + m := ⟨_, rfl⟩
    have hkl : ((n : Int) + (m : Int)) = (N : Int) := by omega
    have hN1 : 1 ≤ N := by omega
    have hN5 : N ≤ 5 := by omega
    have HNN := Lib.hid hN
    rw [← hN] at HT ⊢
    clear hN
    have k0 := HG0.out.k0
    have k1 := HG0.out.k1
    have k2 := HG0.out.k2
    have k3 := HG0.out.k3
    go_enter Try.func42, Try.ntmps42
    go_wp2_with fail
    rw [← HW0.out]
    refine (HIS.out _ HG0.out.b).mono ?_; rintro e w1 ⟨rfl, hbb⟩
    have hg1 := HG0.out.next hbb
    have HG1 := Lib.hid hg1
    obtain ⟨hw1, k0, k1, k2, k3, _, _, _, hz1⟩ := hg1
    have hne : w.heap.size ≠ w1.heap.size := by omega
    have hlt : w.heap.size < w1.heap.size := by omega
    clear hbb HIS HW0 HG0
    go_wp2_with fail
    obtain ⟨W2, hW2⟩ : ∃ W2, W2 = w1.alloc (.cells #[.int .i64 n] 3) := ⟨_, rfl⟩
    have hb2 : Below w1.heap.size w1 W2 := by rw [hW2]; exact (Below.refl _ _).alloc (Nat.le_refl _) _
    have hzW : w1.heap.size < W2.heap.size := by rw [hW2]; simp
    have d0 : W2.cell? ⟨w1.heap.size, 0, none⟩ = some (.int .i64 n) := by rw [hW2]; simp
    have hg2 := HG1.out.next hb2
    have HG2 := Lib.hid hg2
    obtain ⟨hw2, k0, k1, k2, k3, _, _, _, hz2⟩ := hg2
    rw [← hW2]
    have HTL := Lib.hid (fun (W' : World) (h : Below W2.heap.size W2 W') => squareRows_pp w1.heap.size w.heap.size N g W' hN1 hN5 (HT.out W' w1.heap.size w.heap.size (hw2.trans (h.mono hw2.size)) ((h.cell (p := ⟨w1.heap.size, 0, none⟩) hzW).trans d0) ((h.cell (p := ⟨w.heap.size, 0, none⟩) (by show w.heap.size < _; omega)).trans k0) ((h.cell (p := ⟨w.heap.size, 2, none⟩) (by show w.heap.size < _; omega)).trans k2)))
    clear hW2 hb2 HT hz1 HG1 hne hlt hw1
    go_wp2_with fail
    go_wp2_with fail
    refine (HTL.out _ (by (repeat' (first | (with_reducible exact Below.refl _ _) | (with_reducible assumption) | (with_reducible refine Below.alloc ?_ ?_ _) | (with_reducible refine Below.drew ?_) | (with_reducible refine below_drewN ?_ _) | (with_reducible refine Below.setCell ?_ ?_ _) | (with_reducible refine Below.trans ?_ (Below.mono (by with_reducible assumption) ?_)) | (with_reducible exact Below.size (by with_reducible assumption)) | go_size)))).mono ?_; rintro e w3 ⟨us, rfl, hf3, hb3⟩
    have hb23 : Below W2.heap.size W2 w3 := by (repeat' (first | (with_reducible exact Below.refl _ _) | (with_reducible assumption) | (with_reducible refine Below.alloc ?_ ?_ _) | (with_reducible refine Below.drew ?_) | (with_reducible refine below_drewN ?_ _) | (with_reducible refine Below.setCell ?_ ?_ _) | (with_reducible refine Below.trans ?_ (Below.mono (by with_reducible assumption) ?_)) | (with_reducible exact Below.size (by with_reducible assumption)) | go_size))
    have hgw := HG2.out.next hb23
    have HF3 := Lib.hid hf3
    obtain ⟨hw3, k0, k1, k2, k3, r0, r1, zf, hz3⟩ := hgw
    have HW3 := Lib.hid hw3
    clear hb3 hf3 HTL HG2 d0
    have hmx : Try.prog.follows .mixedOrders = true := by kernel_rfl
    have hm100 : m ≤ 100 := by omega
    have hn100 : n ≤ 100 := by omega
    obtain ⟨X, hX⟩ : ∃ X, X = W2.heap.size := ⟨_, rfl⟩
    have HX := Lib.hid hX
    have hxw : X < w3.heap.size := by
      obtain ⟨g', c', hv', _, q2⟩ := HF3.out.top
      simp at hv'
      omega
    rw [← hX] at HF3 ⊢
    have hP3 : w.heap.size < w3.heap.size := by omega
    have hP4 : w.heap.size + 1 < w3.heap.size := hz3
    have HBC := Lib.hid hBC
    have HXS := Lib.hid (show w.heap.size + 2 ≤ X ∧ X < w3.heap.size from ⟨by omega, hxw⟩)
    clear hX hxw hzW hz2 hb23 hw2 hw3 hz3
    go_wp2_with fail
    rename_i K0 hK0
    refine (wpIn_wide (n := 8)).1 ?_
    refine PR.wpIn_region_inv hmx (by kernel_rfl) (fun listed ac w' =>
        ∃ (b0 b1 b2 b3 b4 b5 b6 b7 b8 b9 b10 : Bool) (gm : Nat) (hb : Nat) (gq : Nat) (cq : Nat), ((b2 = true → b1 = true) ∧ (b4 = true → b3 = true) ∧ (b5 = true → b4 = true) ∧ (b6 = true → b2 = true ∧ b5 = true) ∧ (b7 = true → b6 = true ∧ b5 = true) ∧ (b8 = true → b0 = true ∧ b7 = true) ∧ (b9 = true → b8 = true ∧ b7 = true)) ∧ listed = #[b0, b1, b2, b3, b4, b5, b6, b7, b8, b9, b10] ∧
          ac = { tmps := #[.agg #[.slice (some ⟨BD, off, none⟩) n cd, .slice (some ⟨BC, o1, none⟩) n c1, .slice x3 m y3, .slice x4 m y4], .pointer (some ⟨w.heap.size, 0, none⟩), .pointer (some ⟨w.heap.size + 1, 0, none⟩), .int .i64 0, .pointer (some ⟨w1.heap.size, 0, none⟩), .slice (some ⟨X, 0, none⟩) N N, .agg #[.slice (some ⟨BD, off, none⟩) n cd, .slice (some ⟨BC, o1, none⟩) n c1, .slice x3 m y3, .slice x4 m y4], .bool true, .bool false, undef, .pointer (some ⟨w.heap.size, 1, none⟩), .slice (some ⟨BC, o1, none⟩) n c1, .int .i64 n, .int .i64 n, .pointer (some ⟨w.heap.size, 2, none⟩), .slice x3 m y3, .int .i64 m, .int .i64 N, .func (.func 98) #[] #[.pointer (some ⟨w1.heap.size, 0, none⟩), .pointer (some ⟨w.heap.size, 0, none⟩)], .slice (some ⟨X, 0, none⟩) N N, cond b0 (.slice (some ⟨X, 0, none⟩) N N) undef, cond b1 (.pointer (some ⟨w.heap.size, 1, none⟩)) undef, cond b2 (.slice (some ⟨BC, o1, none⟩) n c1) undef, cond b3 (.pointer (some ⟨w.heap.size, 3, none⟩)) undef, cond b4 (.slice x4 m y4) undef, cond b5 (.slice (some ⟨gm, 0, none⟩) m m) undef, cond b6 (.slice (some ⟨hb, 0, none⟩) 2 2) undef, cond b7 (.slice (some ⟨gq, 0, none⟩) (n + m) cq) undef, cond b8 (.agg #[.slice (some ⟨X, 0, none⟩) N N, .slice (some ⟨gq, 0, none⟩) (n + m) cq]) undef], defers := [] } ∧ PpmR w3 w' (w.heap.size + 1) BC o1 n c1 X N m C Y gm hb gq cq b5 b6 b7 b9) ?_ ?_ ?_ ?_
    · rintro listed ac w' ⟨b0, b1, b2, b3, b4, b5, b6, b7, b8, b9, b10, gm, hb, gq, cq, _, rfl, _⟩
      rfl
    · rintro listed ac w' ⟨b0, b1, b2, b3, b4, b5, b6, b7, b8, b9, b10, gm, hb, gq, cq, _, rfl, rfl, hR⟩ hall
      have h0 := hall 0 (by simp)
      have h1 := hall 1 (by simp)
      have h2 := hall 2 (by simp)
      have h3 := hall 3 (by simp)
      have h4 := hall 4 (by simp)
      have h5 := hall 5 (by simp)
      have h6 := hall 6 (by simp)
      have h7 := hall 7 (by simp)
      have h8 := hall 8 (by simp)
      have h9 := hall 9 (by simp)
      have h10 := hall 10 (by simp)
      simp at h0 h1 h2 h3 h4 h5 h6 h7 h8 h9 h10
      subst h0 h1 h2 h3 h4 h5 h6 h7 h8 h9 h10
      clear hall
      refine hK0 _ _ ?_
      simp only [cond_true]
      obtain ⟨W5, hl5, hq5, rfl⟩ := hR.fin rfl
      have hl := HW3.out.trans (hl5.mono HW3.out.size)
      have hrows := HF3.out.below hl5
      have hxs := HXS.out
      obtain ⟨g', c', hv', q1, q2, _⟩ := id hq5
      have eg : g' = gq := by simp at hv'; exact hv'.1.symm
      subst eg
      have hP : FreshP (w.heap.size + 2) W5 (.slice (some ⟨X, 0, none⟩) N N) (.slice (some ⟨g', 0, none⟩) (n + m) cq) (tab N g) (C ++ Y) us := by
        refine ⟨hrows.mono hxs.1, hq5.mono (by omega), fun b hb => ?_⟩
        simp [Value.ownBlock] at hb
        subst hb
        refine ⟨by simp [Value.ownBlock]; omega, fun i hi c => ?_⟩
        have := HF3.out.rows i _ hi c
        omega
      have ht : Tch [w.heap.size + 1] W5 ((W5.setCell ⟨w.heap.size + 1, 0, none⟩ (.slice (some ⟨X, 0, none⟩) N N)).setCell ⟨w.heap.size + 1, 1, none⟩ (.slice (some ⟨g', 0, none⟩) (n + m) cq)) := ((Tch.refl _ _).setCell (by simp) _).setCell (by simp) _
      have hP2 := (hP.tch ht (fun b hb => by simp at hb; omega)).mono (C := w.heap.size) (by omega)
      have HP2 := Lib.hid hP2.ownP
      have HBW := Lib.hid ((hl.setCell (p := ⟨w.heap.size + 1, 0, none⟩) (by show w.heap.size ≤ w.heap.size + 1; omega) (.slice (some ⟨X, 0, none⟩) N N)).setCell (p := ⟨w.heap.size + 1, 1, none⟩) (by show w.heap.size ≤ w.heap.size + 1; omega) (.slice (some ⟨g', 0, none⟩) (n + m) cq))
      have hz5 : w.heap.size + 1 < W5.heap.size := Nat.lt_of_lt_of_le hP4 hl5.size
      have t0 := (hl5.cell (p := ⟨w.heap.size + 1, 0, none⟩) hP4).trans r0
      have t1 := (hl5.cell (p := ⟨w.heap.size + 1, 1, none⟩) hP4).trans r1
      clear hP hP2 ht hrows hq5 hl5 hl hR hv' q1 q2 hxs
      go_wp2_with fail
      refine bodyPost_ret (v := .tuple #[.agg #[.slice (some ⟨X, 0, none⟩) N N, .slice (some ⟨g', 0, none⟩) (n + m) cq], .int .i64 0]) (by simp [*, results, Try.results42, go_sem]) rfl ?_
      exact ⟨_, _, us, rfl, HP2.out, HBW.out⟩
    · exact ⟨false, false, false, false, false, false, false, false, false, false, false, 0, 0, 0, 0, by simp, rfl, rfl, ⟨fun _ => (Below.refl _ _).drew, fun e => Bool.noConfusion e, fun e => Bool.noConfusion e, fun e => Bool.noConfusion e, fun e => Bool.noConfusion e⟩⟩
    · rintro listed ac w' i oi ⟨b0, b1, b2, b3, b4, b5, b6, b7, b8, b9, b10, gm, hb, gq, cq, ⟨e2, e4, e5, e6, e7, e8, e9⟩, rfl, rfl, hR⟩ ho hun hdep
      have hi : i < 11 := by simpa using (Array.getElem?_eq_some_iff.1 ho).1
      obtain rfl | rfl | rfl | rfl | rfl | rfl | rfl | rfl | rfl | rfl | rfl : i = 0 ∨ i = 1 ∨ i = 2 ∨ i = 3 ∨ i = 4 ∨ i = 5 ∨ i = 6 ∨ i = 7 ∨ i = 8 ∨ i = 9 ∨ i = 10 := by omega
      · -- 0
        simp only [List.getElem?_toArray, List.getElem?_cons_zero, Option.some.injEq] at ho
        subst ho
        have hbi : b0 = false := by simpa using hun
        subst hbi
        obtain rfl : b8 = false := Bool.eq_false_iff.2 (fun h => Bool.noConfusion (e8 h).1)
        obtain rfl : b9 = false := Bool.eq_false_iff.2 (fun h => Bool.noConfusion (e9 h).1)
        refine wpOpIn_step rfl (fun K hK => ?_)
        clear hun hdep hi
        go_simp
        refine hK _ _ ⟨true, b1, b2, b3, b4, b5, b6, b7, false, false, b10, gm, hb, gq, cq, ⟨e2, e4, e5, e6, e7, fun h => Bool.noConfusion h, fun h => Bool.noConfusion h⟩, rfl, rfl, hR⟩
      · -- 1
        simp only [List.getElem?_toArray, List.getElem?_cons_succ, List.getElem?_cons_zero, Option.some.injEq] at ho
        subst ho
        have hbi : b1 = false := by simpa using hun
        subst hbi
        obtain rfl : b2 = false := Bool.eq_false_iff.2 (fun h => Bool.noConfusion (e2 h))
        obtain rfl : b6 = false := Bool.eq_false_iff.2 (fun h => Bool.noConfusion (e6 h).1)
        obtain rfl : b7 = false := Bool.eq_false_iff.2 (fun h => Bool.noConfusion (e7 h).1)
        obtain rfl : b8 = false := Bool.eq_false_iff.2 (fun h => Bool.noConfusion (e8 h).2)
        obtain rfl : b9 = false := Bool.eq_false_iff.2 (fun h => Bool.noConfusion (e9 h).1)
        refine wpOpIn_step rfl (fun K hK => ?_)
        clear hun hdep hi
        go_simp
        refine hK _ _ ⟨b0, true, false, b3, b4, b5, false, false, false, false, b10, gm, hb, gq, cq, ⟨fun h => Bool.noConfusion h, e4, e5, fun h => Bool.noConfusion h, fun h => Bool.noConfusion h, fun h => Bool.noConfusion h, fun h => Bool.noConfusion h⟩, rfl, rfl, hR⟩
      · -- 2
        simp only [List.getElem?_toArray, List.getElem?_cons_succ, List.getElem?_cons_zero, Option.some.injEq] at ho
        subst ho
        have hbi : b2 = false := by simpa using hun
        subst hbi
        have hd1 : b1 = true := by have := hdep ⟨1, .data⟩ (by simp) rfl; simpa using this
        subst hd1
        obtain rfl : b6 = false := Bool.eq_false_iff.2 (fun h => Bool.noConfusion (e6 h).1)
        obtain rfl : b7 = false := Bool.eq_false_iff.2 (fun h => Bool.noConfusion (e7 h).1)
        obtain rfl : b8 = false := Bool.eq_false_iff.2 (fun h => Bool.noConfusion (e8 h).2)
        obtain rfl : b9 = false := Bool.eq_false_iff.2 (fun h => Bool.noConfusion (e9 h).1)
        refine wpOpIn_step rfl (fun K hK => ?_)
        clear hun hdep hi
        have t0 := ((hR.low rfl).cell (p := ⟨w.heap.size, 1, none⟩) hP3).trans k1
        go_simp
        refine hK _ _ ⟨b0, true, true, b3, b4, b5, false, false, false, false, b10, gm, hb, gq, cq, ⟨fun _ => rfl, e4, e5, fun h => Bool.noConfusion h, fun h => Bool.noConfusion h, fun h => Bool.noConfusion h, fun h => Bool.noConfusion h⟩, rfl, rfl, hR⟩
      · -- 3
        simp only [List.getElem?_toArray, List.getElem?_cons_succ, List.getElem?_cons_zero, Option.some.injEq] at ho
        subst ho
        have hbi : b3 = false := by simpa using hun
        subst hbi
        obtain rfl : b4 = false := Bool.eq_false_iff.2 (fun h => Bool.noConfusion (e4 h))
        obtain rfl : b5 = false := Bool.eq_false_iff.2 (fun h => Bool.noConfusion (e5 h))
        obtain rfl : b6 = false := Bool.eq_false_iff.2 (fun h => Bool.noConfusion (e6 h).2)
        obtain rfl : b7 = false := Bool.eq_false_iff.2 (fun h => Bool.noConfusion (e7 h).1)
        obtain rfl : b8 = false := Bool.eq_false_iff.2 (fun h => Bool.noConfusion (e8 h).2)
        obtain rfl : b9 = false := Bool.eq_false_iff.2 (fun h => Bool.noConfusion (e9 h).1)
        refine wpOpIn_step rfl (fun K hK => ?_)
        clear hun hdep hi
        go_simp
        refine hK _ _ ⟨b0, b1, b2, true, false, false, false, false, false, false, b10, gm, hb, gq, cq, ⟨e2, fun h => Bool.noConfusion h, fun h => Bool.noConfusion h, fun h => Bool.noConfusion h, fun h => Bool.noConfusion h, fun h => Bool.noConfusion h, fun h => Bool.noConfusion h⟩, rfl, rfl, hR⟩
      · -- 4
        simp only [List.getElem?_toArray, List.getElem?_cons_succ, List.getElem?_cons_zero, Option.some.injEq] at ho
        subst ho
        have hbi : b4 = false := by simpa using hun
        subst hbi
        have hd3 : b3 = true := by have := hdep ⟨3, .data⟩ (by simp) rfl; simpa using this
        subst hd3
        obtain rfl : b5 = false := Bool.eq_false_iff.2 (fun h => Bool.noConfusion (e5 h))
        obtain rfl : b6 = false := Bool.eq_false_iff.2 (fun h => Bool.noConfusion (e6 h).2)
        obtain rfl : b7 = false := Bool.eq_false_iff.2 (fun h => Bool.noConfusion (e7 h).1)
        obtain rfl : b8 = false := Bool.eq_false_iff.2 (fun h => Bool.noConfusion (e8 h).2)
        obtain rfl : b9 = false := Bool.eq_false_iff.2 (fun h => Bool.noConfusion (e9 h).1)
        refine wpOpIn_step rfl (fun K hK => ?_)
        clear hun hdep hi
        have t0 := ((hR.low rfl).cell (p := ⟨w.heap.size, 3, none⟩) hP3).trans k3
        go_simp
        refine hK _ _ ⟨b0, b1, b2, true, true, false, false, false, false, false, b10, gm, hb, gq, cq, ⟨e2, fun _ => rfl, fun h => Bool.noConfusion h, fun h => Bool.noConfusion h, fun h => Bool.noConfusion h, fun h => Bool.noConfusion h, fun h => Bool.noConfusion h⟩, rfl, rfl, hR⟩
      · -- 5
        simp only [List.getElem?_toArray, List.getElem?_cons_succ, List.getElem?_cons_zero, Option.some.injEq] at ho
        subst ho
        have hbi : b5 = false := by simpa using hun
        subst hbi
        have hd4 : b4 = true := by have := hdep ⟨4, .data⟩ (by simp) rfl; simpa using this
        have hd3 : b3 = true := (e4 hd4)
        subst hd3 hd4
        obtain rfl : b6 = false := Bool.eq_false_iff.2 (fun h => Bool.noConfusion (e6 h).2)
        obtain rfl : b7 = false := Bool.eq_false_iff.2 (fun h => Bool.noConfusion (e7 h).1)
        obtain rfl : b8 = false := Bool.eq_false_iff.2 (fun h => Bool.noConfusion (e8 h).2)
        obtain rfl : b9 = false := Bool.eq_false_iff.2 (fun h => Bool.noConfusion (e9 h).1)
        refine wpOpIn_step rfl (fun K hK => ?_)
        clear hun hdep hi
        go_simp
        refine ⟨trivial, (callsIn_wide.2 (HMU.out w' (HW3.out.trans ((hR.low rfl).mono HW3.out.size)))).mono ?_⟩
        rintro e w'' ⟨yg, rfl, q1, q2, q3, q4⟩
        refine hK _ _ ⟨b0, b1, b2, true, true, true, false, false, false, false, b10, yg, hb, gq, cq, ⟨e2, fun _ => rfl, fun _ => rfl, fun h => Bool.noConfusion h, fun h => Bool.noConfusion h, fun h => Bool.noConfusion h, fun h => Bool.noConfusion h⟩, rfl, rfl, hR.call_ q1 q2 q3 q4⟩
      · -- 6
        simp only [List.getElem?_toArray, List.getElem?_cons_succ, List.getElem?_cons_zero, Option.some.injEq] at ho
        subst ho
        have hbi : b6 = false := by simpa using hun
        subst hbi
        have hd2 : b2 = true := by have := hdep ⟨2, .data⟩ (by simp) rfl; simpa using this
        have hd5 : b5 = true := by have := hdep ⟨5, .data⟩ (by simp) rfl; simpa using this
        have hd4 : b4 = true := (e5 hd5)
        have hd3 : b3 = true := (e4 hd4)
        have hd1 : b1 = true := (e2 hd2)
        subst hd1 hd2 hd3 hd4 hd5
        obtain rfl : b7 = false := Bool.eq_false_iff.2 (fun h => Bool.noConfusion (e7 h).1)
        obtain rfl : b8 = false := Bool.eq_false_iff.2 (fun h => Bool.noConfusion (e8 h).2)
        obtain rfl : b9 = false := Bool.eq_false_iff.2 (fun h => Bool.noConfusion (e9 h).1)
        refine wpOpIn_step rfl (fun K hK => ?_)
        clear hun hdep hi
        go_simp
        refine hK _ _ ⟨b0, true, true, true, true, true, true, false, false, false, b10, gm, w'.heap.size, gq, cq, ⟨fun _ => rfl, fun _ => rfl, fun _ => rfl, fun _ => ⟨rfl, rfl⟩, fun h => Bool.noConfusion h, fun h => Bool.noConfusion h, fun h => Bool.noConfusion h⟩, rfl, rfl, hR.box_⟩
      · -- 7
        simp only [List.getElem?_toArray, List.getElem?_cons_succ, List.getElem?_cons_zero, Option.some.injEq] at ho
        subst ho
        have hbi : b7 = false := by simpa using hun
        subst hbi
        have hd5 : b5 = true := by have := hdep ⟨5, .chain⟩ (by simp) rfl; simpa using this
        have hd6 : b6 = true := by have := hdep ⟨6, .data⟩ (by simp) rfl; simpa using this
        have hd4 : b4 = true := (e5 hd5)
        have hd3 : b3 = true := (e4 hd4)
        have hd2 : b2 = true := (e6 hd6).1
        have hd1 : b1 = true := (e2 hd2)
        subst hd1 hd2 hd3 hd4 hd5 hd6
        obtain rfl : b8 = false := Bool.eq_false_iff.2 (fun h => Bool.noConfusion (e8 h).2)
        obtain rfl : b9 = false := Bool.eq_false_iff.2 (fun h => Bool.noConfusion (e9 h).1)
        refine wpOpIn_step rfl (fun K hK => ?_)
        clear hun hdep hi
        go_simp
        have hwl := HW3.out.trans ((hR.low rfl).mono HW3.out.size)
        have hz8 := hwl.size
        obtain ⟨m1, m2, m3⟩ := hR.mul rfl rfl
        obtain ⟨x1, x2, x3'⟩ := hR.box rfl rfl
        refine ⟨trivial, (callsIn_wide.2 (catneg_any hb BC o1 c1 gm m n m C Y w' HN.out HYL.out.symm hn1 hn100 hm100 (Nat.lt_of_lt_of_le HBC.out hz8) (fun k hk => (hwl.cell (p := ⟨BC, o1 + k, none⟩) HBC.out).trans (HCS.out k (by rw [← HN.out]; exact hk))) m2 m3 x1 x2 x3')).mono ?_⟩
        rintro e w'' ⟨yg, yc, rfl, q1, q2⟩
        refine hK _ _ ⟨b0, true, true, true, true, true, true, true, false, false, b10, gm, hb, yg, yc, ⟨fun _ => rfl, fun _ => rfl, fun _ => rfl, fun _ => ⟨rfl, rfl⟩, fun _ => ⟨rfl, rfl⟩, fun h => Bool.noConfusion h, fun h => Bool.noConfusion h⟩, rfl, rfl, hR.cat_ q1 q2⟩
      · -- 8
        simp only [List.getElem?_toArray, List.getElem?_cons_succ, List.getElem?_cons_zero, Option.some.injEq] at ho
        subst ho
        have hbi : b8 = false := by simpa using hun
        subst hbi
        have hd0 : b0 = true := by have := hdep ⟨0, .data⟩ (by simp) rfl; simpa using this
        have hd7 : b7 = true := by have := hdep ⟨7, .data⟩ (by simp) rfl; simpa using this
        have hd6 : b6 = true := (e7 hd7).1
        have hd5 : b5 = true := (e6 hd6).2
        have hd4 : b4 = true := (e5 hd5)
        have hd3 : b3 = true := (e4 hd4)
        have hd2 : b2 = true := (e6 hd6).1
        have hd1 : b1 = true := (e2 hd2)
        subst hd0 hd1 hd2 hd3 hd4 hd5 hd6 hd7
        obtain rfl : b9 = false := Bool.eq_false_iff.2 (fun h => Bool.noConfusion (e9 h).1)
        refine wpOpIn_step rfl (fun K hK => ?_)
        clear hun hdep hi
        go_simp
        refine hK _ _ ⟨true, true, true, true, true, true, true, true, true, false, b10, gm, hb, gq, cq, ⟨fun _ => rfl, fun _ => rfl, fun _ => rfl, fun _ => ⟨rfl, rfl⟩, fun _ => ⟨rfl, rfl⟩, fun _ => ⟨rfl, rfl⟩, fun h => Bool.noConfusion h⟩, rfl, rfl, hR⟩
      · -- 9
        simp only [List.getElem?_toArray, List.getElem?_cons_succ, List.getElem?_cons_zero, Option.some.injEq] at ho
        subst ho
        have hbi : b9 = false := by simpa using hun
        subst hbi
        have hd7 : b7 = true := by have := hdep ⟨7, .chain⟩ (by simp) rfl; simpa using this
        have hd8 : b8 = true := by have := hdep ⟨8, .data⟩ (by simp) rfl; simpa using this
        have hd6 : b6 = true := (e7 hd7).1
        have hd5 : b5 = true := (e6 hd6).2
        have hd4 : b4 = true := (e5 hd5)
        have hd3 : b3 = true := (e4 hd4)
        have hd2 : b2 = true := (e6 hd6).1
        have hd1 : b1 = true := (e2 hd2)
        have hd0 : b0 = true := (e8 hd8).1
        subst hd0 hd1 hd2 hd3 hd4 hd5 hd6 hd7 hd8
        refine wpOpIn_step rfl (fun K hK => ?_)
        clear hun hdep hi
        have t0 := ((hR.low rfl).cell (p := ⟨w.heap.size + 1, 0, none⟩) hP4).trans r0
        have t1 := ((hR.low rfl).cell (p := ⟨w.heap.size + 1, 1, none⟩) hP4).trans r1
        have t2 := ((hR.low rfl).frozen (p := ⟨w.heap.size + 1, 0, none⟩) hP4).trans (zf 0)
        have t3 := ((hR.low rfl).frozen (p := ⟨w.heap.size + 1, 1, none⟩) hP4).trans (zf 1)
        go_simp
        refine hK _ _ ⟨true, true, true, true, true, true, true, true, true, true, b10, gm, hb, gq, cq, ⟨fun _ => rfl, fun _ => rfl, fun _ => rfl, fun _ => ⟨rfl, rfl⟩, fun _ => ⟨rfl, rfl⟩, fun _ => ⟨rfl, rfl⟩, fun _ => ⟨rfl, rfl⟩⟩, rfl, rfl, hR.store_⟩
      · -- 10
        simp only [List.getElem?_toArray, List.getElem?_cons_succ, List.getElem?_cons_zero, Option.some.injEq] at ho
        subst ho
        have hbi : b10 = false := by simpa using hun
        subst hbi
        refine wpOpIn_step rfl (fun K hK => ?_)
        clear hun hdep hi
        go_simp
        refine hK _ _ ⟨b0, b1, b2, b3, b4, b5, b6, b7, b8, b9, true, gm, hb, gq, cq, ⟨e2, e4, e5, e6, e7, e8, e9⟩, rfl, rfl, hR⟩
end Go.Proofs.Ytgncaploccbfnaa.PW
