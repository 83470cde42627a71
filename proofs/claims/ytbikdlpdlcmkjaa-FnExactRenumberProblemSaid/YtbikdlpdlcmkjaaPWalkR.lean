/-
  Walks: a problem renumbered, in the program.
-/
import Derived.Test.YtbikdlpdlcmkjaaPRen
namespace Go.Proofs.Ytbikdlpdlcmkjaa.PW
open Go.RowKit Go.Proofs.Ytbikdlpdlcmkjaa
open Go.Proofs.Ytbikdlpdlcmkjaa.PM

/-- While a problem is renumbered in a copy: the copy, and the argument's variable. -/
structure Rn (w wr : World) (B N : Nat) (m q : Value) (M : List (List Int)) (Q : List Int) (us : List Value) (p0 p1 : Value) : Prop where
  sc : Sc w wr B N m q M Q us
  p0 : wr.cell? ⟨w.heap.size, 0, none⟩ = some p0
  p1 : wr.cell? ⟨w.heap.size, 1, none⟩ = some p1

theorem Sc.drew {w wr : World} {B N : Nat} {m q : Value} {M : List (List Int)} {Q : List Int} {us : List Value} (h : Sc w wr B N m q M Q us) : Sc w wr.drew B N m q M Q us :=
  ⟨h.fresh.below (Below.refl _ _).drew, h.c0, h.c1, h.r0, h.r1, h.rf, h.lt, h.below.drew⟩
theorem Rn.drew {w wr : World} {B N : Nat} {m q : Value} {M : List (List Int)} {Q : List Int} {us : List Value} {p0 p1 : Value} (h : Rn w wr B N m q M Q us p0 p1) : Rn w wr.drew B N m q M Q us p0 p1 := ⟨h.sc.drew, h.p0, h.p1⟩
theorem Rn.setRow {w wr : World} {B N : Nat} {m q : Value} {M : List (List Int)} {Q : List Int} {us : List Value} {p0 p1 : Value} {g cap i : Nat} (h : Rn w wr B N m q M Q us p0 p1) (hi : i < M.length)
    (hu : us.getD i undef = .slice (some ⟨g, 0, none⟩) (M.getD i []).length cap) (hN : g ≠ N) (hB : w.heap.size + 1 < g) (j : Nat) (x : Int) :
    Rn w (wr.setCell ⟨g, j, none⟩ (.int .i64 x)) B N m q (M.set i ((M.getD i []).set j x)) Q us p0 p1 := by
  have hne : ∀ (b o : Nat), b ≠ g → (wr.setCell ⟨g, j, none⟩ (.int .i64 x)).cell? ⟨b, o, none⟩ = wr.cell? ⟨b, o, none⟩ := fun b o hb => World.cell?_of_block (w := wr) (a := ⟨b, o, none⟩) (Below.heap_setCell _ _ _ _ hb)
  exact ⟨h.sc.setRow hi hu hN hB j x, by rw [hne _ _ (by omega)]; exact h.p0, by rw [hne _ _ (by omega)]; exact h.p1⟩
theorem Rn.setRight {w wr : World} {B N : Nat} {m : Value} {M : List (List Int)} {Q : List Int} {us : List Value} {p0 p1 : Value} {g cap : Nat} (h : Rn w wr B N m (.slice (some ⟨g, 0, none⟩) Q.length cap) M Q us p0 p1)
    (hN : g ≠ N) (hB : w.heap.size + 1 < g) (j : Nat) (x : Int) :
    Rn w (wr.setCell ⟨g, j, none⟩ (.int .i64 x)) B N m (.slice (some ⟨g, 0, none⟩) Q.length cap) M (Q.set j x) us p0 p1 := by
  have hne : ∀ (b o : Nat), b ≠ g → (wr.setCell ⟨g, j, none⟩ (.int .i64 x)).cell? ⟨b, o, none⟩ = wr.cell? ⟨b, o, none⟩ := fun b o hb => World.cell?_of_block (w := wr) (a := ⟨b, o, none⟩) (Below.heap_setCell _ _ _ _ hb)
  exact ⟨h.sc.setRight hN hB j x, by rw [hne _ _ (by omega)]; exact h.p0, by rw [hne _ _ (by omega)]; exact h.p1⟩

theorem ren_err1 (m q l : Value) (M : List (List Int)) (Q L : List Int) (w : World) (h1 : PM.Rows w m M) (h2 : Ints w q Q) (h3 : Ints w l L) (hp' : isPB M Q = false) :
    Calls Try.prog 20 #[.agg #[m, q], l] w (OutP w ([], [], 1)) := by
  have g1 := fun (w' : World) (h : Below w.heap.size w w') => h1.below h
  have g2 := fun (w' : World) (h : Below w.heap.size w w') => h2.below h
  obtain ⟨a1, c1, rfl, _⟩ := h1
  obtain ⟨a2, c2, rfl, _⟩ := h2
  obtain ⟨a3, c3, rfl, _⟩ := h3
  have HP := Lib.hid hp'
  clear hp'
  go_enter Try.func20, Try.ntmps20
  go_wp2_with fail
  refine (implIsProblem_any _ _ M Q _ (g1 _ (by (repeat' (first | (with_reducible exact Below.refl _ _) | (with_reducible assumption) | (with_reducible refine Below.alloc ?_ ?_ _) | (with_reducible refine Below.drew ?_) | (with_reducible refine below_drewN ?_ _) | (with_reducible refine Below.setCell ?_ ?_ _) | (with_reducible refine Below.trans ?_ (Below.mono (by with_reducible assumption) ?_)) | (with_reducible exact Below.size (by with_reducible assumption)) | go_size)))) (g2 _ (by (repeat' (first | (with_reducible exact Below.refl _ _) | (with_reducible assumption) | (with_reducible refine Below.alloc ?_ ?_ _) | (with_reducible refine Below.drew ?_) | (with_reducible refine below_drewN ?_ _) | (with_reducible refine Below.setCell ?_ ?_ _) | (with_reducible refine Below.trans ?_ (Below.mono (by with_reducible assumption) ?_)) | (with_reducible exact Below.size (by with_reducible assumption)) | go_size))))).mono ?_; rw [HP.out]; rintro e w1 ⟨rfl, hb1⟩; obtain ⟨hc_hb1, hf_hb1⟩ := bcell hb1; obtain ⟨hcA_hb1, hfA_hb1⟩ := bcellG (W0 := w) hb1 (by (repeat' (first | (with_reducible exact Below.refl _ _) | (with_reducible assumption) | (with_reducible refine Below.alloc ?_ ?_ _) | (with_reducible refine Below.drew ?_) | (with_reducible refine below_drewN ?_ _) | (with_reducible refine Below.setCell ?_ ?_ _) | (with_reducible refine Below.trans ?_ (Below.mono (by with_reducible assumption) ?_)) | (with_reducible exact Below.size (by with_reducible assumption)) | go_size))); have hz_hb1 := hb1.size; (try simp at hz_hb1); (try simp only [Nat.add_one_le_iff] at hz_hb1); have hz0_hb1 : w.heap.size < w1.heap.size := (by omega); have hz1_hb1 : w.heap.size + 1 < w1.heap.size := (by omega)
  go_wp2_with fail
  refine bodyPost_ret (v := .tuple #[.agg #[.slice none 0 0, .slice none 0 0], .int .i64 1]) (by simp [*, results, Try.results20, go_sem]) rfl ?_
  refine ⟨_, _, [], rfl, ownP_nil _ _, ?_⟩
  (repeat' (first | (with_reducible exact Below.refl _ _) | (with_reducible assumption) | (with_reducible refine Below.alloc ?_ ?_ _) | (with_reducible refine Below.drew ?_) | (with_reducible refine below_drewN ?_ _) | (with_reducible refine Below.setCell ?_ ?_ _) | (with_reducible refine Below.trans ?_ (Below.mono (by with_reducible assumption) ?_)) | (with_reducible exact Below.size (by with_reducible assumption)) | go_size))

theorem ren_err2 (m q l : Value) (M : List (List Int)) (Q L : List Int) (w : World) (h1 : PM.Rows w m M) (h2 : Ints w q Q) (h3 : Ints w l L) (hp : isPB M Q = true) (hl : M.length ≤ 1048576) (hL : numB L M.length = false) :
    Calls Try.prog 20 #[.agg #[m, q], l] w (OutP w ([], [], 2)) := by
  have g1 := fun (w' : World) (h : Below w.heap.size w w') => h1.below h
  have g2 := fun (w' : World) (h : Below w.heap.size w w') => h2.below h
  have g3 := fun (w' : World) (h : Below w.heap.size w w') => h3.below h
  obtain ⟨a1, c1, rfl, _⟩ := h1
  obtain ⟨a2, c2, rfl, _⟩ := h2
  obtain ⟨a3, c3, rfl, _⟩ := h3
  have HP := Lib.hid hp
  have HL := Lib.hid hL
  have HN := Lib.hid hl
  clear hp hL hl
  go_enter Try.func20, Try.ntmps20
  go_wp2_with fail
  refine (implIsProblem_any _ _ M Q _ (g1 _ (by (repeat' (first | (with_reducible exact Below.refl _ _) | (with_reducible assumption) | (with_reducible refine Below.alloc ?_ ?_ _) | (with_reducible refine Below.drew ?_) | (with_reducible refine below_drewN ?_ _) | (with_reducible refine Below.setCell ?_ ?_ _) | (with_reducible refine Below.trans ?_ (Below.mono (by with_reducible assumption) ?_)) | (with_reducible exact Below.size (by with_reducible assumption)) | go_size)))) (g2 _ (by (repeat' (first | (with_reducible exact Below.refl _ _) | (with_reducible assumption) | (with_reducible refine Below.alloc ?_ ?_ _) | (with_reducible refine Below.drew ?_) | (with_reducible refine below_drewN ?_ _) | (with_reducible refine Below.setCell ?_ ?_ _) | (with_reducible refine Below.trans ?_ (Below.mono (by with_reducible assumption) ?_)) | (with_reducible exact Below.size (by with_reducible assumption)) | go_size))))).mono ?_; rw [HP.out]; rintro e w1 ⟨rfl, hb1⟩; obtain ⟨hc_hb1, hf_hb1⟩ := bcell hb1; obtain ⟨hcA_hb1, hfA_hb1⟩ := bcellG (W0 := w) hb1 (by (repeat' (first | (with_reducible exact Below.refl _ _) | (with_reducible assumption) | (with_reducible refine Below.alloc ?_ ?_ _) | (with_reducible refine Below.drew ?_) | (with_reducible refine below_drewN ?_ _) | (with_reducible refine Below.setCell ?_ ?_ _) | (with_reducible refine Below.trans ?_ (Below.mono (by with_reducible assumption) ?_)) | (with_reducible exact Below.size (by with_reducible assumption)) | go_size))); have hz_hb1 := hb1.size; (try simp at hz_hb1); (try simp only [Nat.add_one_le_iff] at hz_hb1); have hz0_hb1 : w.heap.size < w1.heap.size := (by omega); have hz1_hb1 : w.heap.size + 1 < w1.heap.size := (by omega)
  go_wp2_with fail
  refine (isNumbering_any _ L M.length _ (g3 _ (by (repeat' (first | (with_reducible exact Below.refl _ _) | (with_reducible assumption) | (with_reducible refine Below.alloc ?_ ?_ _) | (with_reducible refine Below.drew ?_) | (with_reducible refine below_drewN ?_ _) | (with_reducible refine Below.setCell ?_ ?_ _) | (with_reducible refine Below.trans ?_ (Below.mono (by with_reducible assumption) ?_)) | (with_reducible exact Below.size (by with_reducible assumption)) | go_size)))) HN.out).mono ?_; rw [HL.out]; rintro e w2 ⟨rfl, rfl⟩
  go_wp2_with fail
  refine bodyPost_ret (v := .tuple #[.agg #[.slice none 0 0, .slice none 0 0], .int .i64 2]) (by simp [*, results, Try.results20, go_sem]) rfl ?_
  refine ⟨_, _, [], rfl, ownP_nil _ _, ?_⟩
  (repeat' (first | (with_reducible exact Below.refl _ _) | (with_reducible assumption) | (with_reducible refine Below.alloc ?_ ?_ _) | (with_reducible refine Below.drew ?_) | (with_reducible refine below_drewN ?_ _) | (with_reducible refine Below.setCell ?_ ?_ _) | (with_reducible refine Below.trans ?_ (Below.mono (by with_reducible assumption) ?_)) | (with_reducible exact Below.size (by with_reducible assumption)) | go_size))
end Go.Proofs.Ytbikdlpdlcmkjaa.PW
