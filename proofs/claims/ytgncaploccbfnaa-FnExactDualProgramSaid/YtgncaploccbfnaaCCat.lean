/-
  Walks: slices.Concat of two lists.
-/
import Derived.Test.YtgncaploccbfnaaCGrow
namespace Go.Proofs.Ytgncaploccbfnaa.PW
open Go.RowKit Go.Proofs.Ytgncaploccbfnaa
open Go.Proofs.Ytgncaploccbfnaa.PM

theorem FreshI.pushL {B C g cap n m : Nat} {wr w4 : World} {v : Value} {xs ys : List Int} (h : FreshI B wr v xs) (hB : B ≤ wr.heap.size) (hn : n = xs.length) (hm : m = ys.length)
    (hown : w4.ownsRow C 2 1 (.slice (some ⟨g, 0, none⟩) (n + m) cap) (n + m) (xs.map (Value.int .i64) ++ ys.map (Value.int .i64))) (hat : v.ownBlock = some g ∨ g = wr.heap.size) (hlt : g < w4.heap.size) :
    FreshI B w4 (.slice (some ⟨g, 0, none⟩) (n + m) cap) (xs ++ ys) := by
  obtain ⟨gv, cv, hv, hv1, hv2, _⟩ := h
  subst hn hm
  refine ⟨g, cap, by simp, ?_, hlt, ?_⟩
  · rcases hat with h1 | h1
    · rw [hv] at h1; simp [Value.ownBlock] at h1; omega
    · omega
  · have := own_base' hown
    unfold OwnI
    simpa using this
theorem FreshI.growL {B : Nat} {W wr w4 : World} {v : Value} {xs : List Int} (h : FreshI B wr v xs) (hb : Below B W wr) (hB : B ≤ wr.heap.size) (hgrow : wr.grownBy w4 v.ownBlock) : Below B W w4 := by
  obtain ⟨gv, cv, hv, hv1, hv2, _⟩ := h
  exact hb.grown hgrow hB (fun b hb' => by rw [hv] at hb'; simp [Value.ownBlock] at hb'; omega)
theorem wrap_small {x : Int} (h0 : 0 ≤ x) (h1 : x ≤ 1000) : wrap64 x = x := by unfold wrap64; omega
theorem ints_news {w : World} {b off n : Nat} {X : List Int} (hn : n = X.length) (h : ∀ k, k < n → w.cell? ⟨b, off + k, none⟩ = some (.int .i64 (X.getD k 0))) :
    ∀ j u, (X.map (Value.int .i64))[j]? = some u → w.cell? ((⟨b, off, none⟩ : Addr).add j) = some u := fun j u hj => by
  subst hn
  exact news_at h j u hj

set_option maxRecDepth 100000 in
set_option maxHeartbeats 600000 in
theorem concat_two (bs b1 o1 c1 b2 o2 c2 n m : Nat) (X Y : List Int) (w : World) (hn : n = X.length) (hm : m = Y.length) (hn1 : 1 ≤ n) (hn2 : n ≤ 100) (hm1 : 1 ≤ m) (hm2 : m ≤ 100)
    (hb1 : b1 < w.heap.size) (hx : ∀ k, k < n → w.cell? ⟨b1, o1 + k, none⟩ = some (.int .i64 (X.getD k 0))) (hb2 : b2 < w.heap.size) (hy : ∀ k, k < m → w.cell? ⟨b2, o2 + k, none⟩ = some (.int .i64 (Y.getD k 0)))
    (hbs : bs < w.heap.size) (hs0 : w.cell? ⟨bs, 0, none⟩ = some (.slice (some ⟨b1, o1, none⟩) n c1)) (hs1 : w.cell? ⟨bs, 1, none⟩ = some (.slice (some ⟨b2, o2, none⟩) m c2)) :
    Calls Try.prog 99 #[.slice (some ⟨bs, 0, none⟩) 2 2] w fun e w' => ∃ g cap, e = .returned (.slice (some ⟨g, 0, none⟩) (n + m) cap) ∧ FreshI w.heap.size w' (.slice (some ⟨g, 0, none⟩) (n + m) cap) (X ++ Y) ∧ Below w.heap.size w w' := by
  obtain ⟨j0, hj, hyy0, hyy1, hyy2⟩ := info_parts info_int
  have HX := Lib.hid (fun w' (h : Below w.heap.size w w') => ints_news (w := w') (off := o1) hn (fun k hk => (h.cell (p := ⟨b1, o1 + k, none⟩) hb1).trans (hx k hk)))
  have HY := Lib.hid (fun w' (h : Below w.heap.size w w') => ints_news (w := w') (off := o2) hm (fun k hk => (h.cell (p := ⟨b2, o2 + k, none⟩) hb2).trans (hy k hk)))
  have HS := Lib.hid (fun w' (h : Below w.heap.size w w') => And.intro ((h.cell (p := ⟨bs, 0, none⟩) hbs).trans hs0) ((h.cell (p := ⟨bs, 1, none⟩) hbs).trans hs1))
  have HG := Lib.hid (fun w' => show Calls Try.prog 129 #[.slice none 0 0, .int .i64 ((n : Int) + (m : Int))] w' _ from growNil_any (n + m) w' (by omega) (by omega))
  have HN := Lib.hid hn
  have HM := Lib.hid hm
  have l1 : ¬ ((n : Int) < 0) := by omega
  have l2 : ¬ ((n : Int) + m < 0) := by omega
  clear hn hm hx hy
  go_enter Try.func99, Try.ntmps99
  go_wp2_with fail
  go_loopw [3, 5, 11] (fun s _ i wr => (∃ k : Nat, k ≤ 2 ∧ i = .int .i64 k ∧ ((k = 0 ∧ s = .int .i64 0) ∨ (k = 1 ∧ s = .int .i64 n) ∨ (k = 2 ∧ s = .int .i64 (n + m)))) ∧ wr = w) (fun _ _ i _ => 2 - (intOf i).toNat)
  case atStart => exact ⟨⟨0, by omega, by go_num, .inl ⟨rfl, rfl⟩⟩, rfl⟩
  case round =>
    obtain ⟨⟨k, hk, rfl, hc⟩, hw⟩ := hrel
    have hw' := hw.symm
    clear hw
    subst hw'
    rcases hc with ⟨rfl, rfl⟩ | ⟨rfl, rfl⟩ | ⟨rfl, rfl⟩
    · go_wp2_with fail
      go_roundw
      case rel => exact ⟨⟨1, by omega, by go_num, .inr (.inl ⟨rfl, rfl⟩)⟩, trivial⟩
      case measure => simp [intOf]
    · go_wp2_with fail
      go_roundw
      case rel => exact ⟨⟨2, by omega, by go_num, .inr (.inr ⟨rfl, rfl⟩)⟩, trivial⟩
      case measure => simp [intOf]
    · go_wp2_with fail
      refine (HG.out _).mono ?_; rintro e w2 ⟨G, rfl, ho2, hb2', hz2⟩
      have hf0 : FreshI w.heap.size w2 (.slice (some ⟨w.heap.size, 0, none⟩) 0 G) [] := ⟨_, _, rfl, Nat.le_refl _, by show w.heap.size < _; omega, ho2⟩
      have HF0 := Lib.hid hf0
      have HB2 := Lib.hid hb2'
      clear hf0 ho2 hb2' hk
      go_wp2_with fail
      go_loopw [6, 8, 27] (fun v _ i wq => ∃ k : Nat, k ≤ 2 ∧ i = .int .i64 k ∧ ((k = 0 ∧ FreshI w.heap.size wq v []) ∨ (k = 1 ∧ FreshI w.heap.size wq v X) ∨ (k = 2 ∧ FreshI w.heap.size wq v (X ++ Y))) ∧ Below w.heap.size w wq) (fun _ _ i _ => 2 - (intOf i).toNat)
      case atStart => exact ⟨0, by omega, by go_num, .inl ⟨rfl, HF0.out⟩, HB2.out⟩
      case round =>
        obtain ⟨k, hk, rfl, hc, hB⟩ := hrel
        have hzr := hB.size
        obtain ⟨s0, s1⟩ := HS.out _ hB
        have HNX := Lib.hid (HX.out _ hB)
        have HNY := Lib.hid (HY.out _ hB)
        have HB := Lib.hid hB
        clear hB
        rcases hc with ⟨rfl, hI⟩ | ⟨rfl, hI⟩ | ⟨rfl, hI⟩
        · have HI := Lib.hid hI
          have HOW := Lib.hid hI.owns
          clear hI
          go_wp2_with (at_builtin; refine wpList_append_lies _ rfl _ _ 23 rfl 0 2 j0 (.int .i64 0) 1 8 Try.underlying23 hj hyy0 hyy1 hyy2 rfl (by decide) u6 0 _ rfl HOW.out ⟨b1, o1, none⟩ n c1 (X.map (Value.int .i64)) rfl (by simp [HN.out]) HNX.out (by intro u hu; simp at hu; obtain ⟨x, _, rfl⟩ := hu; rfl) (by omega) (by unfold maxLen; omega) (by omega) (Nat.zero_le _) _ rfl ?_; intro g cap w3 hown hgrow hat hgl)
          have hpu := HI.out.pushL hzr rfl HN.out hown hat hgl
          have hgr := HI.out.growL HB.out hzr hgrow
          have HPU := Lib.hid hpu
          have HGR := Lib.hid hgr
          clear hpu hgr hown hgrow hat hgl
          go_wp2_with fail
          go_roundw
          case rel => exact ⟨1, by omega, by go_num, .inr (.inl ⟨rfl, by simpa using HPU.out⟩), HGR.out⟩
          case measure => simp [intOf]
        · have HI := Lib.hid hI
          have HOW := Lib.hid (show wr.ownsRow 0 2 1 u6 n (X.map (Value.int .i64)) by rw [HN.out]; exact hI.owns)
          clear hI
          go_wp2_with (at_builtin; refine wpList_append_lies _ rfl _ _ 23 rfl 0 2 j0 (.int .i64 0) 1 8 Try.underlying23 hj hyy0 hyy1 hyy2 rfl (by decide) u6 n _ rfl HOW.out ⟨b2, o2, none⟩ m c2 (Y.map (Value.int .i64)) rfl (by simp [HM.out]) HNY.out (by intro u hu; simp at hu; obtain ⟨x, _, rfl⟩ := hu; rfl) (by omega) (by unfold maxLen; omega) (by omega) (Nat.zero_le _) _ rfl ?_; intro g cap w3 hown hgrow hat hgl)
          have hpu := HI.out.pushL hzr HN.out HM.out hown hat hgl
          have hgr := HI.out.growL HB.out hzr hgrow
          have HPU := Lib.hid hpu
          have HGR := Lib.hid hgr
          clear hpu hgr hown hgrow hat hgl
          go_wp2_with fail
          go_roundw
          case rel => exact ⟨2, by omega, by go_num, .inr (.inr ⟨rfl, HPU.out⟩), HGR.out⟩
          case measure => simp [intOf]
        · have HI := Lib.hid hI
          clear hI
          go_wp2_with fail
          go_ret
          obtain ⟨g, cap, hv, h1, h2, h3⟩ := HI.out
          have hl : (X ++ Y).length = n + m := by rw [List.length_append, ← HN.out, ← HM.out]
          rw [hl] at hv
          subst hv
          exact ⟨g, cap, rfl, ⟨g, cap, by rw [hl], h1, h2, h3⟩, HB.out⟩
end Go.Proofs.Ytgncaploccbfnaa.PW
