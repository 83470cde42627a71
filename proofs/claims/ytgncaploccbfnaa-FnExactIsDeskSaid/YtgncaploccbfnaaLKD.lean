/-
  Desks, as the walks of the laws want them (lawx.py): a desk is a problem and the number of a set, three cells in one box.
-/
import Derived.Test.YtgncaploccbfnaaLKP
import Derived.Test.YtgncaploccbfnaaPFrame
namespace Go.Proofs.Ytgncaploccbfnaa
open Go.ChangeShapes Go.WideShapes Go.ChangeAt Go.RowKit Go.Joins Go.Deep
open Go.Proofs.Ytgncaploccbfnaa.PM
theorem cellsDesk : Try.prog.cellsOf 75 = 3 := by kernel_rfl
set_option maxRecDepth 100000 in
theorem desk_in {H : Type} {enc : TypeId × Value → H} {W : World} {held : Bool} {r : Reach} {b0 : Nat} {v : Value} {d : DataW H} {p : List MemPlace} (hv : Value.okWide Try.prog W r b0 75 v)
    (h : DataW.Trod enc Try.prog W 0 (fun _ => true) held 75 v d p) :
    ∃ m q s, v = .agg #[m, q, .int .i64 s] ∧ (∃ M, PM.Rows W m M) ∧ (∃ Q, PM.Ints W q Q) ∧ PM.I64 s := by
  obtain ⟨cs, rfl, hsz⟩ := okWide_struct Try.underlying75 hv
  obtain ⟨c0, c1, c2, rfl⟩ := array3 (hsz.trans cellsDesk)
  obtain ⟨fuel, hf⟩ := h
  obtain ⟨y0, y1, n, _, _, h0, h1⟩ := trod_struct2 Try.underlying75 hf
  have h0' : DataW.trod enc Try.prog W 0 (fun _ => true) held n 25 [c0, c1] = some y0 := by
    have e : Try.prog.cellsOf 25 = 2 := cellsProb
    simpa [Value.cells, e] using h0
  have h1' : DataW.trod enc Try.prog W 0 (fun _ => true) held n 2 [c2] = some y1 := by
    have e : Try.prog.cellsOf 2 = 1 := by kernel_rfl
    simpa [Value.cells, e] using h1
  obtain ⟨z0, z1, k, _, _, g0, g1⟩ := trod_struct2 Try.underlying25 h0'
  have e1 : Try.prog.cellsOf 22 = 1 := by kernel_rfl
  have e2 : Try.prog.cellsOf 23 = 1 := by kernel_rfl
  obtain ⟨s, e4, _, wx⟩ := DataW.trod_int Try.underlying2 h1'
  obtain rfl : c2 = .int .i64 s := by simpa using e4
  exact ⟨c0, c1, s, rfl, rows_in (by simpa [e1] using g0), ints_in (by simpa [e2] using g1), bounds_i64 wx⟩
end Go.Proofs.Ytgncaploccbfnaa
namespace Go.Proofs.Ytgncaploccbfnaa.PW
open Go.RowKit Go.Proofs.Ytgncaploccbfnaa
open Go.Proofs.Ytgncaploccbfnaa.PM

theorem Bet.setC {lo hi : Nat} {w w' : World} (h : Bet lo hi w w') {p : Addr} (h1 : lo ≤ p.block) (h2 : p.block < hi) (v : Value) : Bet lo hi w (w'.setCell p v) :=
  ⟨h.os, h.tape, h.output, by simpa using h.size, fun k hk hd => (Below.heap_setCell _ p _ _ (by omega)).trans (h.block k hk hd)⟩
theorem RngPx.lower {lo lo' hi hi' : Nat} {w : World} {m q : Value} {M : List (List Int)} {Q : List Int} (h : RngPx lo hi w m q M Q) (h1 : lo' ≤ lo) (h2 : hi ≤ hi') : RngPx lo' hi' w m q M Q := by
  obtain ⟨us, h⟩ := h
  exact ⟨us, h.rows, h.right, fun b hb => by have := h.mb b hb; omega, fun b hb => by have := h.qb b hb; omega, fun i b hi hb => by have := h.ub i b hi hb; omega, h.apart⟩
theorem szD_x (m q : Value) (M : List (List Int)) (Q : List Int) {s : Int} (w : World) (h1 : PM.Rows w m M) (h2 : Ints w q Q) :
    Calls Try.prog 58 #[.agg #[m, q, .int .i64 s], .int .i64 1048576] w fun e w' => e = .returned (.int .i64 (szI (tot M + Q.length) 1048576)) ∧ Below w.heap.size w w' := by
  have HS := Lib.hid (fun (w' : World) (h : Below w.heap.size w w') => szP_x m q M Q w' (h1.below h) (h2.below h))
  obtain ⟨x, hx⟩ : ∃ x, x = szI (tot M + Q.length) 1048576 := ⟨_, rfl⟩
  have hn : ¬ x < 0 ∨ x = -1 := by
    by_cases h : szI (tot M + Q.length) 1048576 < 0
    · right; rw [hx]; exact szx_neg h
    · left; rw [hx]; exact h
  rw [← hx] at HS ⊢
  clear hx
  obtain ⟨a1, c1, rfl, _⟩ := h1
  obtain ⟨a2, c2, rfl, _⟩ := h2
  rcases hn with hn | rfl
  · go_enter Try.func58, Try.ntmps58
    go_wp2_with fail
    refine (HS.out _ (by (repeat' (first | (with_reducible exact Below.refl _ _) | (with_reducible assumption) | (with_reducible refine Below.alloc ?_ ?_ _) | (with_reducible refine Below.drew ?_) | (with_reducible refine below_drewN ?_ _) | (with_reducible refine Below.setCell ?_ ?_ _) | (with_reducible refine Below.trans ?_ (Below.mono (by with_reducible assumption) ?_)) | (with_reducible exact Below.size (by with_reducible assumption)) | go_size)))).mono ?_; rintro e w2 ⟨rfl, hb2⟩
    go_wp2_with fail
    go_ret
    exact ⟨rfl, by (repeat' (first | (with_reducible exact Below.refl _ _) | (with_reducible assumption) | (with_reducible refine Below.alloc ?_ ?_ _) | (with_reducible refine Below.drew ?_) | (with_reducible refine below_drewN ?_ _) | (with_reducible refine Below.setCell ?_ ?_ _) | (with_reducible refine Below.trans ?_ (Below.mono (by with_reducible assumption) ?_)) | (with_reducible exact Below.size (by with_reducible assumption)) | go_size))⟩
  · go_enter Try.func58, Try.ntmps58
    go_wp2_with fail
    refine (HS.out _ (by (repeat' (first | (with_reducible exact Below.refl _ _) | (with_reducible assumption) | (with_reducible refine Below.alloc ?_ ?_ _) | (with_reducible refine Below.drew ?_) | (with_reducible refine below_drewN ?_ _) | (with_reducible refine Below.setCell ?_ ?_ _) | (with_reducible refine Below.trans ?_ (Below.mono (by with_reducible assumption) ?_)) | (with_reducible exact Below.size (by with_reducible assumption)) | go_size)))).mono ?_; rintro e w2 ⟨rfl, hb2⟩
    go_wp2_with fail
    go_ret
    exact ⟨rfl, by (repeat' (first | (with_reducible exact Below.refl _ _) | (with_reducible assumption) | (with_reducible refine Below.alloc ?_ ?_ _) | (with_reducible refine Below.drew ?_) | (with_reducible refine below_drewN ?_ _) | (with_reducible refine Below.setCell ?_ ?_ _) | (with_reducible refine Below.trans ?_ (Below.mono (by with_reducible assumption) ?_)) | (with_reducible exact Below.size (by with_reducible assumption)) | go_size))⟩
theorem toD_x (m q : Value) (M : List (List Int)) (Q : List Int) {s : Int} (w : World) (h1 : PM.Rows w m M) (h2 : Ints w q Q) (hn : tot M + Q.length ≤ 1048576) :
    Calls Try.prog 60 #[.agg #[m, q, .int .i64 s]] w fun e w' => ∃ a c b d, e = .returned (.agg #[.slice a M.length c, .slice b Q.length d, .int .i64 s]) ∧ RngPx w.heap.size w'.heap.size w' (.slice a M.length c) (.slice b Q.length d) M Q ∧ Below w.heap.size w w' := by
  have HS := Lib.hid (fun (w' : World) (h : Below w.heap.size w w') => toP_x m q M Q w' (h1.below h) (h2.below h) hn)
  clear hn
  obtain ⟨a1, c1, rfl, _⟩ := h1
  obtain ⟨a2, c2, rfl, _⟩ := h2
  go_enter Try.func60, Try.ntmps60
  go_wp2_with fail
  refine (HS.out _ (by (repeat' (first | (with_reducible exact Below.refl _ _) | (with_reducible assumption) | (with_reducible refine Below.alloc ?_ ?_ _) | (with_reducible refine Below.drew ?_) | (with_reducible refine below_drewN ?_ _) | (with_reducible refine Below.setCell ?_ ?_ _) | (with_reducible refine Below.trans ?_ (Below.mono (by with_reducible assumption) ?_)) | (with_reducible exact Below.size (by with_reducible assumption)) | go_size)))).mono ?_; rintro e w2 ⟨a, c, b, d, rfl, hr, hb2⟩
  have k2 : w2.cell? ⟨w.heap.size, 2, none⟩ = some (.int .i64 s) := (hb2.cell (p := ⟨w.heap.size, 2, none⟩) (by simp <;> omega)).trans (by simp [go_sem])
  have q0 : w2.cell? ⟨w.heap.size + 1 + 1, 0, none⟩ = some (.slice none 0 0) := (hb2.cell (p := ⟨w.heap.size + 1 + 1, 0, none⟩) (by simp)).trans (by simp [go_sem])
  have q1 : w2.cell? ⟨w.heap.size + 1 + 1, 1, none⟩ = some (.slice none 0 0) := (hb2.cell (p := ⟨w.heap.size + 1 + 1, 1, none⟩) (by simp)).trans (by simp [go_sem])
  have q2 : w2.cell? ⟨w.heap.size + 1 + 1, 2, none⟩ = some (.int .i64 0) := (hb2.cell (p := ⟨w.heap.size + 1 + 1, 2, none⟩) (by simp)).trans (by simp [go_sem])
  have q3 : ∀ o, w2.frozen? ⟨w.heap.size + 1 + 1, o, none⟩ = false := fun o => (hb2.frozen (p := ⟨w.heap.size + 1 + 1, o, none⟩) (by simp)).trans (by simp [go_sem])
  have r0 : w2.cell? ⟨w.heap.size + 1, 0, none⟩ = some (.slice none 0 0) := (hb2.cell (p := ⟨w.heap.size + 1, 0, none⟩) (by simp <;> omega)).trans (by simp [go_sem])
  have r1 : w2.cell? ⟨w.heap.size + 1, 1, none⟩ = some (.slice none 0 0) := (hb2.cell (p := ⟨w.heap.size + 1, 1, none⟩) (by simp <;> omega)).trans (by simp [go_sem])
  have r2 : w2.cell? ⟨w.heap.size + 1, 2, none⟩ = some (.int .i64 0) := (hb2.cell (p := ⟨w.heap.size + 1, 2, none⟩) (by simp <;> omega)).trans (by simp [go_sem])
  have r3 : ∀ o, w2.frozen? ⟨w.heap.size + 1, o, none⟩ = false := fun o => (hb2.frozen (p := ⟨w.heap.size + 1, o, none⟩) (by simp <;> omega)).trans (by simp [go_sem])
  have q30 := q3 0
  have q31 := q3 1
  have q32 := q3 2
  have r30 := r3 0
  have r31 := r3 1
  have r32 := r3 2
  have hz := hb2.size
  simp at hz
  have HR := Lib.hid hr
  have HB := Lib.hid hb2
  clear q3 r3 hr hb2
  go_wp2_with fail
  refine bodyPost_ret (v := .agg #[.slice a M.length c, .slice b Q.length d, .int .i64 s]) (by simp [*, results, Try.results60, go_sem]) rfl ?_
  have hBt := (((((((Bet.of_below (lo := w.heap.size) (hi := w.heap.size + 3) (Below.refl _ _) : Bet w.heap.size (w.heap.size + 3) w2 w2).setC (p := ⟨w.heap.size + 1 + 1, 0, none⟩) (by show w.heap.size ≤ w.heap.size + 1 + 1; omega) (by show w.heap.size + 1 + 1 < _; omega) (.slice a M.length c)).setC (p := ⟨w.heap.size + 1 + 1, 1, none⟩) (by show w.heap.size ≤ w.heap.size + 1 + 1; omega) (by show w.heap.size + 1 + 1 < _; omega) (.slice b Q.length d)).setC (p := ⟨w.heap.size + 1 + 1, 2, none⟩) (by show w.heap.size ≤ w.heap.size + 1 + 1; omega) (by show w.heap.size + 1 + 1 < _; omega) (.int .i64 s)).setC (p := ⟨w.heap.size + 1, 0, none⟩) (by show w.heap.size ≤ w.heap.size + 1; omega) (by show w.heap.size + 1 < _; omega) (.slice a M.length c)).setC (p := ⟨w.heap.size + 1, 1, none⟩) (by show w.heap.size ≤ w.heap.size + 1; omega) (by show w.heap.size + 1 < _; omega) (.slice b Q.length d)).setC (p := ⟨w.heap.size + 1, 2, none⟩) (by show w.heap.size ≤ w.heap.size + 1; omega) (by show w.heap.size + 1 < _; omega) (.int .i64 s))
  have hr := HR.out.bet hBt (.inr (by simp))
  have hb2 : Below w.heap.size w w2 := by have := HB.out; (repeat' (first | (with_reducible exact Below.refl _ _) | (with_reducible assumption) | (with_reducible refine Below.alloc ?_ ?_ _) | (with_reducible refine Below.drew ?_) | (with_reducible refine below_drewN ?_ _) | (with_reducible refine Below.setCell ?_ ?_ _) | (with_reducible refine Below.trans ?_ (Below.mono (by with_reducible assumption) ?_)) | (with_reducible exact Below.size (by with_reducible assumption)) | go_size))
  exact ⟨_, _, _, _, rfl, hr.lower (by simp; omega) (by simp), hb2.trans (hBt.below (by omega))⟩
theorem eqD_x (m q m2 q2 : Value) (M : List (List Int)) (Q : List Int) {s : Int} (w : World) (h1 : PM.Rows w m M) (h2 : Ints w q Q) (h3 : PM.Rows w m2 M) (h4 : Ints w q2 Q) :
    Calls Try.prog 55 #[.agg #[m, q, .int .i64 s], .agg #[m2, q2, .int .i64 s]] w fun e w' => e = .returned (.bool true) ∧ Below w.heap.size w w' := by
  have HS := Lib.hid (fun (w' : World) (h : Below w.heap.size w w') => eqP_x m q m2 q2 M Q w' (h1.below h) (h2.below h) (h3.below h) (h4.below h))
  obtain ⟨a1, c1, rfl, _⟩ := h1
  obtain ⟨a2, c2, rfl, _⟩ := h2
  obtain ⟨a3, c3, rfl, _⟩ := h3
  obtain ⟨a4, c4, rfl, _⟩ := h4
  go_enter Try.func55, Try.ntmps55
  go_wp2_with fail
  refine (HS.out _ (by (repeat' (first | (with_reducible exact Below.refl _ _) | (with_reducible assumption) | (with_reducible refine Below.alloc ?_ ?_ _) | (with_reducible refine Below.drew ?_) | (with_reducible refine below_drewN ?_ _) | (with_reducible refine Below.setCell ?_ ?_ _) | (with_reducible refine Below.trans ?_ (Below.mono (by with_reducible assumption) ?_)) | (with_reducible exact Below.size (by with_reducible assumption)) | go_size)))).mono ?_; rintro e w1 ⟨rfl, hb1⟩
  have k2 : w1.cell? ⟨w.heap.size, 2, none⟩ = some (.int .i64 s) := (hb1.cell (p := ⟨w.heap.size, 2, none⟩) (by simp <;> omega)).trans (by simp [go_sem])
  have q2 : w1.cell? ⟨w.heap.size + 1, 2, none⟩ = some (.int .i64 s) := (hb1.cell (p := ⟨w.heap.size + 1, 2, none⟩) (by simp <;> omega)).trans (by simp [go_sem])
  go_wp2_with fail
  go_ret
  exact ⟨rfl, by (repeat' (first | (with_reducible exact Below.refl _ _) | (with_reducible assumption) | (with_reducible refine Below.alloc ?_ ?_ _) | (with_reducible refine Below.drew ?_) | (with_reducible refine below_drewN ?_ _) | (with_reducible refine Below.setCell ?_ ?_ _) | (with_reducible refine Below.trans ?_ (Below.mono (by with_reducible assumption) ?_)) | (with_reducible exact Below.size (by with_reducible assumption)) | go_size))⟩
theorem eqD_ans {lo hi lo' hi' : Nat} {w : World} {m q m2 q2 : Value} {M : List (List Int)} {Q : List Int} {s : Int} (h : RngPx lo hi w m q M Q) (h' : RngPx lo' hi' w m2 q2 M Q) (hf : FinePx M Q) :
    Calls Try.prog 55 #[.agg #[m, q, .int .i64 s], .agg #[m2, q2, .int .i64 s]] w fun e w' => e = .returned (.bool true) ∧ Below w.heap.size w w' := by
  obtain ⟨r1, r2⟩ := h.reads hf.m hf.q
  obtain ⟨s1, s2⟩ := h'.reads hf.m hf.q
  exact eqD_x m q m2 q2 M Q w r1 r2 s1 s2
theorem markD_k {lo hi : Nat} {w : World} {m q : Value} {M : List (List Int)} {Q : List Int} {s : Int} (h : RngPx lo hi w m q M Q) (hf : FinePx M Q) (hhi : hi ≤ w.heap.size) (k : Int) (h0 : 0 ≤ k) (h1 : k ≤ 1048577) :
    Calls Try.prog 56 #[.agg #[m, q, .int .i64 s], .int .i64 k] w fun e w' => e = .returned (.int .i64 (k + (sizePx M Q : Int))) ∧ MkP k lo hi w' m q M Q ∧ Bet lo hi w w' := by
  obtain ⟨a1, c1, rfl⟩ : ∃ a cap, m = .slice a M.length cap := by
    obtain ⟨us, h⟩ := h
    rcases h.rows.top.2 with ⟨rfl, hn⟩ | ⟨g, cap, cur, rfl, _⟩
    · exact ⟨none, 0, by rw [hn]⟩
    · exact ⟨_, cap, rfl⟩
  obtain ⟨a2, c2, rfl⟩ : ∃ a cap, q = .slice a Q.length cap := by
    obtain ⟨us, h⟩ := h
    exact OwnI.shape h.right
  have HS := Lib.hid (fun o => markP_k (w := w.alloc o) (h.below ((Below.refl _ _).alloc (Nat.le_refl _) _) hhi) hf (by simp; omega) k h0 h1)
  have hx := sizePx_le hf
  obtain ⟨x, hxx⟩ : ∃ x : Int, x = (sizePx M Q : Int) := ⟨_, rfl⟩
  have hx0 : 0 ≤ x := by omega
  rw [← hxx] at HS hx ⊢
  clear h hxx
  go_enter Try.func56, Try.ntmps56
  go_wp2_with fail
  refine (HS.out _).mono ?_; rintro e w1 ⟨rfl, hm, hbt⟩
  have HM := Lib.hid hm
  have HB := Lib.hid (Bet.trans (.of_below ((Below.refl _ _).alloc (Nat.le_refl _) _)) hbt)
  clear hm hbt
  go_wp2_with fail
  go_ret
  exact ⟨rfl, HM.out, HB.out⟩
theorem heldD_k {lo hi : Nat} {w : World} {m q : Value} {M : List (List Int)} {Q : List Int} {s : Int} (k : Int) (h : MkP k lo hi w m q M Q) (hf : FinePx M Q) (hh : hi ≤ w.heap.size) (h0 : 0 ≤ k) (h1 : k ≤ 1048577) :
    Calls Try.prog 57 #[.agg #[m, q, .int .i64 s], .int .i64 k] w fun e w' => e = .returned (.int .i64 (k + (sizePx M Q : Int))) ∧ Below w.heap.size w w' := by
  obtain ⟨a1, c1, rfl⟩ : ∃ a cap, m = .slice a M.length cap := by
    obtain ⟨us, h⟩ := h
    rcases h.rows.top.2 with ⟨rfl, hn⟩ | ⟨g, cap, cur, rfl, _⟩
    · exact ⟨none, 0, by rw [← marksR_length k M, hn]⟩
    · exact ⟨_, cap, by rw [marksR_length]⟩
  obtain ⟨a2, c2, rfl⟩ : ∃ a cap, q = .slice a Q.length cap := by
    obtain ⟨us, h⟩ := h
    obtain ⟨a, c, e⟩ := OwnI.shape h.right
    exact ⟨a, c, by rw [e, marks_length]⟩
  have HS := Lib.hid (fun o => heldP_k (w := w.alloc o) k (h.below ((Below.refl _ _).alloc (Nat.le_refl _) _) hh) hf (by simp; omega) h0 h1)
  have hx := sizePx_le hf
  obtain ⟨x, hxx⟩ : ∃ x : Int, x = (sizePx M Q : Int) := ⟨_, rfl⟩
  have hx0 : 0 ≤ x := by omega
  rw [← hxx] at HS hx ⊢
  clear h hxx
  go_enter Try.func57, Try.ntmps57
  go_wp2_with fail
  refine (HS.out _).mono ?_; rintro e w1 ⟨rfl, hb⟩
  have hxp : ¬ k + x < 0 := by omega
  go_wp2_with fail
  go_ret
  exact ⟨rfl, by (repeat' (first | (with_reducible exact Below.refl _ _) | (with_reducible assumption) | (with_reducible refine Below.alloc ?_ ?_ _) | (with_reducible refine Below.drew ?_) | (with_reducible refine below_drewN ?_ _) | (with_reducible refine Below.setCell ?_ ?_ _) | (with_reducible refine Below.trans ?_ (Below.mono (by with_reducible assumption) ?_)) | (with_reducible exact Below.size (by with_reducible assumption)) | go_size))⟩
end Go.Proofs.Ytgncaploccbfnaa.PW
