/-
  Walks: a list of fractions appended to a list of the call's own; slices.Grow of the nil slice and slices.Concat of two lists, of fractions.
-/
import Derived.Test.YtgncaploccbfnaaVNum
import Derived.Test.YtgncaploccbfnaaPFrM
import Derived.Deep.AppendLies
import Derived.Deep.Upon
import Derived.Lib.SlFresh
import Derived.Lib.AppendZerosOnto
namespace Go.Proofs.Ytgncaploccbfnaa.PW
open Go.RowKit Go.Proofs.Ytgncaploccbfnaa
open Go.Proofs.Ytgncaploccbfnaa.PM

theorem fcs_one (xs : List (Int × Int)) : ∀ u ∈ fcs xs, u.oneCell' = true := by
  induction xs with
  | nil => intro u hu; simp [fcs] at hu
  | cons x xs ih =>
    obtain ⟨a, b⟩ := x
    intro u hu
    simp only [fcs, List.mem_cons] at hu
    rcases hu with rfl | rfl | hu
    · rfl
    · rfl
    · exact ih u hu
theorem fcs_news {w : World} {b off : Nat} {xs : List (Int × Int)} (h : ∀ i, i < xs.length → w.cell? ⟨b, off + i * 2, none⟩ = some (.int .i64 (xs.getD i (0, 0)).1) ∧ w.cell? ⟨b, off + i * 2 + 1, none⟩ = some (.int .i64 (xs.getD i (0, 0)).2)) :
    ∀ j u, (fcs xs)[j]? = some u → w.cell? ((⟨b, off, none⟩ : Addr).add j) = some u := fun j u hj => by
  have hl : j < (fcs xs).length := by
    rcases Nat.lt_or_ge j (fcs xs).length with h1 | h1
    · exact h1
    · rw [List.getElem?_eq_none h1] at hj; cases hj
  rw [fcs_length] at hl
  have hadd : (⟨b, off, none⟩ : Addr).add j = ⟨b, off + j, none⟩ := by unfold Addr.add; by_cases h0 : j = 0 <;> simp [h0]
  rw [hadd]
  obtain ⟨i, hi⟩ : ∃ i, j = i * 2 ∨ j = i * 2 + 1 := ⟨j / 2, by omega⟩
  rcases hi with rfl | rfl
  · rw [fcs_get0 xs i (by omega)] at hj
    rw [(h i (by omega)).1, ← hj]
  · rw [fcs_get1 xs i (by omega)] at hj
    rw [← Nat.add_assoc, (h i (by omega)).2, ← hj]
set_option maxRecDepth 100000 in
theorem run_append_frs (wr : World) (ty : TypeId) {B n : Nat} {v y : Value} {xs ys : List (Int × Int)} (h : FreshF B wr v xs) (hn : n = xs.length) (hy : Frs wr y ys) (hl : xs.length + ys.length ≤ 1000) (hB : B ≤ wr.heap.size) :
    ∃ g cap w', (Builtin.append_ #[41, 41] ty #[v, y]).run Try.prog wr = .ok (.slice (some ⟨g, 0, none⟩) (n + ys.length) cap) w' ∧ FreshF B w' (.slice (some ⟨g, 0, none⟩) (n + ys.length) cap) (xs ++ ys) ∧ Below B wr w' := by
  subst hn
  obtain ⟨j0, hj, hyy0, hyy1, hyy2⟩ := info_parts info_frac
  obtain ⟨g, cap, rfl, h1, h2, ho⟩ := h
  by_cases hm : 1 ≤ ys.length
  · obtain ⟨b, off, c, rfl, hb, hc⟩ := hy.at_ hm
    obtain ⟨g', cap', w', hr, hown, hgrow, hat, hgl⟩ := run_append_lies (P := Try.prog) (w := wr) 41 ty 0 98 j0 (.agg #[.int .i64 0, .int .i64 0]) 2 16 Try.underlying41 hj hyy0 hyy1 hyy2 rfl (by decide) _ xs.length (fcs xs) ho ⟨b, off, none⟩ ys.length c (fcs ys) (fcs_length ys) (fcs_news (hc wr (Below.refl _ _))) (fcs_one ys) (by omega) (by unfold maxLen; omega) (by omega) (Nat.zero_le _) wr.heap.size rfl
    refine ⟨g', cap', w', hr, ⟨g', cap', by simp, ?_, hgl, ?_⟩, (Below.refl B wr).grown hgrow hB (fun b hb => by simp [Value.ownBlock] at hb; omega)⟩
    · rcases hat with e | e
      · simp [Value.ownBlock] at e; omega
      · omega
    · unfold OwnF
      rw [List.length_append, fcs_append]
      exact hown
  · have h0 : ys = [] := List.eq_nil_of_length_eq_zero (by omega)
    subst h0
    have hle : xs.length ≤ cap := by
      obtain ⟨_, hz⟩ := ho
      rcases hz with ⟨hz, _⟩ | ⟨g', cap', cur, hz, _, _, hle, _⟩
      · simp at hz
      · simp at hz
        rw [hz.2]
        exact hle
    obtain ⟨a, c, rfl, _⟩ := hy
    have hs : Src Try.prog j0.size 41 (.slice a 0 c) 0 [] wr := by
      cases a with
      | none => exact Src.ofNil wr Try.underlying41 c
      | some a2 => exact Src.ofSlice wr Try.underlying41 a2 0 c [] (by simp) (fun j u h => by simp at h) (fun u h => by simp at h)
    have hrun := run_append_nothing (P := Try.prog) (ty := ty) wr 41 41 98 j0 Try.underlying41 hj (some ⟨g, 0, none⟩) xs.length cap hle (.slice a 0 c) hs
    exact ⟨g, cap, wr, hrun, by rw [List.append_nil]; exact ⟨g, cap, rfl, h1, h2, ho⟩, Below.refl _ _⟩
set_option maxRecDepth 100000 in
set_option maxHeartbeats 2000000 in
theorem growNilF_any (n : Nat) (w : World) (h1 : 1 ≤ n) (h2 : n ≤ 1000) :
    Calls Try.prog 131 #[.slice none 0 0, .int .i64 n] w fun e w' =>
      ∃ G, e = .returned (.slice (some ⟨w.heap.size, 0, none⟩) 0 G) ∧ FreshF w.heap.size w' (.slice (some ⟨w.heap.size, 0, none⟩) 0 G) [] ∧ Below w.heap.size w w' := by
  obtain ⟨i0, hi, hz0, hz1, hz2⟩ := info_parts info_frac
  have hG1 : n ≤ grownCap w n 0 98 := grownCap_ge w _ _ _
  have hG2 := grownCap_le_maxLen w n 0 98 (by unfold maxLen; omega)
  have hrz : ∀ ty, (Builtin.append_ #[41, 3] ty #[.slice none 0 0, .int .i64 n]).run Try.prog w =
      .ok (.slice (some ⟨w.heap.size, 0, none⟩) n (grownCap w n 0 98)) (w.drew.alloc (.cells (([] : List Value).toArray ++ Builtin.zeroCells (Value.agg #[.int .i64 0, .int .i64 0]).cells n ++ Builtin.zeroCells (Value.agg #[.int .i64 0, .int .i64 0]).cells (grownCap w n 0 98 - n)) 98)) := fun ty => by
    have h := Lib.run_append_grow_zeros w 41 3 ty 98 i0 (.agg #[.int .i64 0, .int .i64 0]) .i64 .i64 Try.underlying41 Try.underlying3 hi hz0 none 0 0 [] (run_firstCells_none w.drew i0.size 0 0 0) n (by omega) (by omega) (by omega) (by omega) (by rw [hz2]; omega)
      (by rw [Nat.zero_add]; exact growslice_fits (by omega) (by rw [hz2]; omega))
    simpa only [Nat.zero_add] using h
  obtain ⟨G, hG⟩ : ∃ G, G = grownCap w n 0 98 := ⟨_, rfl⟩
  rw [← hG] at hrz hG1 hG2
  have hG63 : G ≤ 9223372036854775807 := by unfold maxLen at hG2; omega
  have hn0 : ¬ ((n : Int) < 0) := by omega
  have hnp : (n : Int) > 0 := by omega
  have hw1 : wrap64 (n : Int) = n := by unfold wrap64; omega
  have HZ := Lib.hid (show (([] : List Value).toArray ++ Builtin.zeroCells (Value.agg #[.int .i64 0, .int .i64 0]).cells n ++ Builtin.zeroCells (Value.agg #[.int .i64 0, .int .i64 0]).cells (G - n)).size = G * 2 by
    have e1 : (Value.agg #[.int .i64 0, .int .i64 0]).cells.size = 2 := rfl
    simp [Builtin.zeroCells, e1]; omega)
  generalize (([] : List Value).toArray ++ Builtin.zeroCells (Value.agg #[.int .i64 0, .int .i64 0]).cells n ++ Builtin.zeroCells (Value.agg #[.int .i64 0, .int .i64 0]).cells (G - n)) = C at *
  have HG := Lib.hid hG2
  clear hG hG2 hi hz0 hz1 hz2
  go_enter Try.func131, Try.ntmps131
  go_wp2_with (at_builtin; refine Lib.wpList_append_run _ rfl _ _ _ _ rfl _ _ rfl rfl _ _ (hrz _) ?_)
  all_goals go_ret
  all_goals exact ⟨G, rfl, ⟨_, _, rfl, Nat.le_refl _, by simp, ⟨by simp [fcs], .inr ⟨w.heap.size, G, C, rfl, Nat.zero_le _, by show (w.alloc _).heap[w.heap.size]? = _; exact heap_alloc_new w _, Nat.zero_le _, HG.out, by rw [HZ.out], by simp [fcs]⟩⟩⟩, ((Below.refl _ _).drew).alloc (Nat.le_refl _) _⟩
set_option maxRecDepth 100000 in
set_option maxHeartbeats 600000 in
theorem concatF_any (bs n m c1 c2 : Nat) (a1 a2 : Option Addr) (X Y : List (Int × Int)) (w : World) (hx : Frs w (.slice a1 n c1) X) (hy : Frs w (.slice a2 m c2) Y) (hn : n = X.length) (hm : m = Y.length) (hn1 : 1 ≤ n) (hn2 : n ≤ 100) (hm2 : m ≤ 100)
    (hbs : bs < w.heap.size) (hs0 : w.cell? ⟨bs, 0, none⟩ = some (.slice a1 n c1)) (hs1 : w.cell? ⟨bs, 1, none⟩ = some (.slice a2 m c2)) :
    Calls Try.prog 103 #[.slice (some ⟨bs, 0, none⟩) 2 2] w fun e w' => ∃ g cap, e = .returned (.slice (some ⟨g, 0, none⟩) (n + m) cap) ∧ FreshF w.heap.size w' (.slice (some ⟨g, 0, none⟩) (n + m) cap) (X ++ Y) ∧ Below w.heap.size w w' := by
  have HS := Lib.hid (fun w' (h : Below w.heap.size w w') => And.intro ((h.cell (p := ⟨bs, 0, none⟩) hbs).trans hs0) ((h.cell (p := ⟨bs, 1, none⟩) hbs).trans hs1))
  have HG := Lib.hid (fun w' => show Calls Try.prog 131 #[.slice none 0 0, .int .i64 ((n : Int) + (m : Int))] w' _ from growNilF_any (n + m) w' (by omega) (by omega))
  have HA := Lib.hid (fun wr ty (k : Nat) (v : Value) (h : FreshF w.heap.size wr v []) (hb : Below w.heap.size w wr) (hk : k = 0) => run_append_frs wr ty (n := k) h hk (hx.below hb) (by simp; omega) hb.size)
  have HB := Lib.hid (fun wr ty (v : Value) (h : FreshF w.heap.size wr v X) (hb : Below w.heap.size w wr) => run_append_frs wr ty h hn (hy.below hb) (by omega) hb.size)
  rw [← hn] at HA
  rw [← hm] at HB
  have HN := Lib.hid hn
  have HM := Lib.hid hm
  have l1 : ¬ ((n : Int) < 0) := by omega
  have l2 : ¬ ((n : Int) + m < 0) := by omega
  clear hn hm hx hy
  go_enter Try.func103, Try.ntmps103
  go_wp2_with fail
  go_loopw [3, 5, 11] (fun s _ i wr => (∃ k : Nat, k ≤ 2 ∧ i = .int .i64 k ∧ ((k = 0 ∧ s = .int .i64 0) ∨ (k = 1 ∧ s = .int .i64 n) ∨ (k = 2 ∧ s = .int .i64 (n + m)))) ∧ wr = w) (fun _ _ i _ => 2 - (intOf i).toNat)
  case atStart => exact ⟨⟨0, by omega, by go_num, .inl ⟨rfl, rfl⟩⟩, rfl⟩
  case round =>
    obtain ⟨⟨k, hk, rfl, hc⟩, hw⟩ := hrel
    have hw' := hw.symm
    clear hw
    subst hw'
    rcases hc with ⟨rfl, rfl⟩ | ⟨rfl, rfl⟩ | ⟨rfl, rfl⟩
    · go_wp2_with fail
      go_roundw
      case rel => exact ⟨⟨1, by omega, by go_num, .inr (.inl ⟨rfl, rfl⟩)⟩, trivial⟩
      case measure => simp [intOf]
    · go_wp2_with fail
      go_roundw
      case rel => exact ⟨⟨2, by omega, by go_num, .inr (.inr ⟨rfl, rfl⟩)⟩, trivial⟩
      case measure => simp [intOf]
    · go_wp2_with fail
      refine (HG.out _).mono ?_; rintro e w2 ⟨G, rfl, ho2, hb2'⟩
      have HF0 := Lib.hid ho2
      have HB2 := Lib.hid hb2'
      clear ho2 hb2' hk
      go_wp2_with fail
      go_loopw [6, 8, 27] (fun v _ i wq => ∃ k : Nat, k ≤ 2 ∧ i = .int .i64 k ∧ ((k = 0 ∧ ∃ g c, v = .slice (some ⟨g, 0, none⟩) 0 c ∧ FreshF w.heap.size wq v []) ∨ (k = 1 ∧ ∃ g c, v = .slice (some ⟨g, 0, none⟩) n c ∧ FreshF w.heap.size wq v X) ∨ (k = 2 ∧ ∃ g c, v = .slice (some ⟨g, 0, none⟩) (n + m) c ∧ FreshF w.heap.size wq v (X ++ Y))) ∧ Below w.heap.size w wq) (fun _ _ i _ => 2 - (intOf i).toNat)
      case atStart => exact ⟨0, by omega, by go_num, .inl ⟨rfl, _, _, rfl, HF0.out⟩, HB2.out⟩
      case round =>
        obtain ⟨k, hk, rfl, hc, hBw⟩ := hrel
        have hzr := hBw.size
        obtain ⟨s0, s1⟩ := HS.out _ hBw
        have HBW := Lib.hid hBw
        clear hBw
        rcases hc with ⟨rfl, g0, q0, rfl, hI⟩ | ⟨rfl, g0, q0, rfl, hI⟩ | ⟨rfl, g0, q0, rfl, hI⟩
        · obtain ⟨g, cap, w3, hrun, hF, hBl⟩ := HA.out wr 41 0 _ hI HBW.out rfl
          have HF := Lib.hid hF
          have HL := Lib.hid (HBW.out.trans hBl)
          have hz0 : 0 + n = n := Nat.zero_add n
          rw [hz0, List.nil_append] at HF
          rw [hz0] at hrun
          clear hI hF hBl hz0
          go_wp2_with (at_builtin; refine Lib.wpList_append_run_sl _ rfl _ _ 41 rfl _ _ rfl rfl hrun ?_)
          go_roundw
          case rel => exact ⟨1, by omega, by go_num, .inr (.inl ⟨rfl, _, _, rfl, HF.out⟩), HL.out⟩
          case measure => simp [intOf]
        · obtain ⟨g, cap, w3, hrun, hF, hBl⟩ := HB.out wr 41 _ hI HBW.out
          have HF := Lib.hid hF
          have HL := Lib.hid (HBW.out.trans hBl)
          clear hI hF hBl
          go_wp2_with (at_builtin; refine Lib.wpList_append_run_sl _ rfl _ _ 41 rfl _ _ rfl rfl hrun ?_)
          go_roundw
          case rel => exact ⟨2, by omega, by go_num, .inr (.inr ⟨rfl, _, _, rfl, HF.out⟩), HL.out⟩
          case measure => simp [intOf]
        · have HI := Lib.hid hI
          clear hI
          go_wp2_with fail
          go_ret
          exact ⟨g0, q0, rfl, HI.out, HBW.out⟩
end Go.Proofs.Ytgncaploccbfnaa.PW
