/-
  Walks: slices.Concat of a list and an empty one; impl.multiplesOf of an empty list.
-/
import Derived.Test.YtgncaploccbfnaaCCat
import Derived.Deep.Upon
import Derived.Lib.SlFresh
namespace Go.Proofs.Ytgncaploccbfnaa.PW
open Go.RowKit Go.Proofs.Ytgncaploccbfnaa
open Go.Proofs.Ytgncaploccbfnaa.PM

set_option maxRecDepth 100000 in
set_option maxHeartbeats 600000 in
theorem concat_nil (bs b1 o1 c1 c2 n : Nat) (a2 : Addr) (X : List Int) (w : World) (hn : n = X.length) (hn1 : 1 ≤ n) (hn2 : n ≤ 100)
    (hb1 : b1 < w.heap.size) (hx : ∀ k, k < n → w.cell? ⟨b1, o1 + k, none⟩ = some (.int .i64 (X.getD k 0)))
    (hbs : bs < w.heap.size) (hs0 : w.cell? ⟨bs, 0, none⟩ = some (.slice (some ⟨b1, o1, none⟩) n c1)) (hs1 : w.cell? ⟨bs, 1, none⟩ = some (.slice (some a2) 0 c2)) :
    Calls Try.prog 99 #[.slice (some ⟨bs, 0, none⟩) 2 2] w fun e w' => ∃ g cap, e = .returned (.slice (some ⟨g, 0, none⟩) n cap) ∧ FreshI w.heap.size w' (.slice (some ⟨g, 0, none⟩) n cap) X ∧ Below w.heap.size w w' := by
  obtain ⟨j0, hj, hyy0, hyy1, hyy2⟩ := info_parts info_int
  have HX := Lib.hid (fun w' (h : Below w.heap.size w w') => ints_news (w := w') (off := o1) hn (fun k hk => (h.cell (p := ⟨b1, o1 + k, none⟩) hb1).trans (hx k hk)))
  have HS := Lib.hid (fun w' (h : Below w.heap.size w w') => And.intro ((h.cell (p := ⟨bs, 0, none⟩) hbs).trans hs0) ((h.cell (p := ⟨bs, 1, none⟩) hbs).trans hs1))
  have HG := Lib.hid (fun w' => growNil_any n w' (by omega) (by omega))
  have HN := Lib.hid hn
  have l1 : ¬ ((n : Int) < 0) := by omega
  clear hn hx
  go_enter Try.func99, Try.ntmps99
  go_wp2_with fail
  go_loopw [3, 5, 11] (fun s _ i wr => (∃ k : Nat, k ≤ 2 ∧ i = .int .i64 k ∧ ((k = 0 ∧ s = .int .i64 0) ∨ (k = 1 ∧ s = .int .i64 n) ∨ (k = 2 ∧ s = .int .i64 n))) ∧ wr = w) (fun _ _ i _ => 2 - (intOf i).toNat)
  case atStart => exact ⟨⟨0, by omega, by go_num, .inl ⟨rfl, rfl⟩⟩, rfl⟩
  case round =>
    obtain ⟨⟨k, hk, rfl, hc⟩, hw⟩ := hrel
    have hw' := hw.symm
    clear hw
    subst hw'
    rcases hc with ⟨rfl, rfl⟩ | ⟨rfl, rfl⟩ | ⟨rfl, rfl⟩
    · go_wp2_with fail
      go_roundw
      case rel => exact ⟨⟨1, by omega, by go_num, .inr (.inl ⟨rfl, rfl⟩)⟩, trivial⟩
      case measure => simp [intOf]
    · go_wp2_with fail
      go_roundw
      case rel => exact ⟨⟨2, by omega, by go_num, .inr (.inr ⟨rfl, rfl⟩)⟩, trivial⟩
      case measure => simp [intOf]
    · go_wp2_with fail
      refine (HG.out _).mono ?_; rintro e w2 ⟨G, rfl, ho2, hb2', hz2⟩
      have hf0 : FreshI w.heap.size w2 (.slice (some ⟨w.heap.size, 0, none⟩) 0 G) [] := ⟨_, _, rfl, Nat.le_refl _, by show w.heap.size < _; omega, ho2⟩
      have HF0 := Lib.hid hf0
      have HB2 := Lib.hid hb2'
      clear hf0 ho2 hb2' hk
      go_wp2_with fail
      go_loopw [6, 8, 27] (fun v _ i wq => ∃ k : Nat, k ≤ 2 ∧ i = .int .i64 k ∧ ((k = 0 ∧ FreshI w.heap.size wq v []) ∨ (k = 1 ∧ FreshI w.heap.size wq v X) ∨ (k = 2 ∧ FreshI w.heap.size wq v X)) ∧ Below w.heap.size w wq) (fun _ _ i _ => 2 - (intOf i).toNat)
      case atStart => exact ⟨0, by omega, by go_num, .inl ⟨rfl, HF0.out⟩, HB2.out⟩
      case round =>
        obtain ⟨k, hk, rfl, hc, hB⟩ := hrel
        have hzr := hB.size
        obtain ⟨s0, s1⟩ := HS.out _ hB
        have HNX := Lib.hid (HX.out _ hB)
        have HB := Lib.hid hB
        clear hB
        rcases hc with ⟨rfl, hI⟩ | ⟨rfl, hI⟩ | ⟨rfl, hI⟩
        · have HI := Lib.hid hI
          have HOW := Lib.hid hI.owns
          clear hI
          go_wp2_with (at_builtin; refine wpList_append_lies _ rfl _ _ 23 rfl 0 2 j0 (.int .i64 0) 1 8 Try.underlying23 hj hyy0 hyy1 hyy2 rfl (by decide) u6 0 _ rfl HOW.out ⟨b1, o1, none⟩ n c1 (X.map (Value.int .i64)) rfl (by simp [HN.out]) HNX.out (by intro u hu; simp at hu; obtain ⟨x, _, rfl⟩ := hu; rfl) (by omega) (by unfold maxLen; omega) (by omega) (Nat.zero_le _) _ rfl ?_; intro g cap w3 hown hgrow hat hgl)
          have hpu := HI.out.pushL hzr rfl HN.out hown hat hgl
          have hgr := HI.out.growL HB.out hzr hgrow
          have HPU := Lib.hid hpu
          have HGR := Lib.hid hgr
          clear hpu hgr hown hgrow hat hgl
          go_wp2_with fail
          go_roundw
          case rel => exact ⟨1, by omega, by go_num, .inr (.inl ⟨rfl, by simpa using HPU.out⟩), HGR.out⟩
          case measure => simp [intOf]
        · obtain ⟨g, cap, rfl, q1, q2, q3⟩ := id hI
          have hle : n ≤ cap := by
            obtain ⟨_, hz⟩ := q3
            rcases hz with ⟨hz, _⟩ | ⟨g', cap', cur, hz, _, _, hle, _⟩
            · simp at hz
            · simp at hz
              rw [HN.out, hz.2]
              exact hle
          have hrun := run_append_nothing (P := Try.prog) wr 23 23 23 2 j0 Try.underlying23 hj (some ⟨g, 0, none⟩) n cap hle (.slice (some a2) 0 c2) (by rw [hyy1]; exact Src.ofSlice wr Try.underlying23 a2 0 c2 [] (by simp) (fun j u h => by simp at h) (fun u h => by simp at h))
          rw [← HN.out] at hI ⊢
          have HI := Lib.hid hI
          clear hI q1 q3 hle
          go_wp2_with (at_builtin; refine Lib.wpList_append_run_sl _ rfl _ _ 23 rfl _ _ rfl rfl hrun ?_)
          go_roundw
          case rel => exact ⟨2, by omega, by go_num, .inr (.inr ⟨rfl, HI.out⟩), HB.out⟩
          case measure => simp [intOf]
        · have HI := Lib.hid hI
          clear hI
          go_wp2_with fail
          go_ret
          obtain ⟨g, cap, hv, h1, h2, h3⟩ := HI.out
          rw [← HN.out] at hv
          subst hv
          exact ⟨g, cap, rfl, ⟨g, cap, by rw [← HN.out], h1, h2, h3⟩, HB.out⟩

theorem multiplesOf_nil (a : Option Addr) (c n : Nat) (k : Int) (w : World) (hn : n = 0) :
    Calls Try.prog 100 #[.slice a n c, .int .i64 k] w fun e w' => ∃ g, e = .returned (.slice (some ⟨g, 0, none⟩) n n) ∧ w.heap.size ≤ g ∧ g < w'.heap.size ∧ Below w.heap.size w w' := by
  have hmk := run_make_row' (P := Try.prog) 23 2 (.int .i64 0) 8 Try.underlying23 info_int rfl .i64 .i64 n (by omega) (by omega)
  have hn0 : ¬ ((0 : Int) < n) := by omega
  have hn1 : n ≤ 9223372036854775807 := by omega
  clear hn
  have hA0 : Below w.heap.size w (w.alloc (.cells (madeCells #[.int .i64 0] n) 2)) := (Below.refl _ _).alloc (Nat.le_refl _) _
  have hA1 : w.heap.size < (w.alloc (.cells (madeCells #[.int .i64 0] n) 2)).heap.size := by simp
  obtain ⟨W, hW⟩ : ∃ W, W = w.alloc (.cells (madeCells #[.int .i64 0] n) 2) := ⟨_, rfl⟩
  rw [← hW] at hA0 hA1
  have HW := Lib.hid hW
  have HA := Lib.hid hA0
  obtain ⟨g, hg⟩ : ∃ g, g = w.heap.size := ⟨_, rfl⟩
  have HG := Lib.hid (And.intro (show w.heap.size ≤ g by omega) (show g < W.heap.size by omega))
  have HE := Lib.hid hg
  clear hW hA0 hA1 hg
  go_enter Try.func100, Try.ntmps100
  go_wp2_with fail
  rw [← HW.out, ← HE.out]
  go_loopw [6, 7, 13] (fun _ _ i wr => i = .int .i64 0 ∧ wr = W) (fun _ _ _ _ => 0)
  case atStart => exact ⟨rfl, rfl⟩
  case round =>
    obtain ⟨rfl, hw⟩ := hrel
    have hw' := hw.symm
    clear hw
    subst hw'
    go_wp2_with fail
    go_ret
    exact ⟨g, rfl, HG.out.1, HG.out.2, HA.out⟩
end Go.Proofs.Ytgncaploccbfnaa.PW
