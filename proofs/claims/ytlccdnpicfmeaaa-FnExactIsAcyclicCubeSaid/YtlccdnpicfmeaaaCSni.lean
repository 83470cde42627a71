/-
  Walks: the sinks of an orientation, in the program; lists that start as nil and are appended to.
-/
import Derived.Test.YtlccdnpicfmeaaaCIm
namespace Go.Proofs.Ytlccdnpicfmeaaa.PW
open Go.RowKit Go.Proofs.Ytlccdnpicfmeaaa
open Go.Proofs.Ytlccdnpicfmeaaa.PM

theorem rngI_nil (lo hi : Nat) (w : World) : RngI lo hi w (.slice none 0 0) [] := ⟨World.ownsRow_nil _ _ _ _, fun b hb => by simp [Value.ownBlock] at hb⟩
theorem RngI.owns {B hi : Nat} {wr : World} {v : Value} {xs : List Int} (h : RngI B hi wr v xs) : wr.ownsRow 0 2 1 v xs.length (xs.map (Value.int .i64)) := h.own
theorem RngI.push {B C g cap n : Nat} {wr w4 : World} {v : Value} {xs : List Int} {x : Int} {t : TypeId} (h : RngI B wr.heap.size wr v xs) (hB : B ≤ wr.heap.size) (hn : n = xs.length)
    (hown : w4.ownsRow C 2 1 (.slice (some ⟨g, 0, none⟩) (n + 1) cap) (n + 1) (xs.map (Value.int .i64) ++ [.int .i64 x])) (hat : v.ownBlock = some g ∨ g = (wr.alloc (.cells #[.int .i64 x] t)).heap.size) (hlt : g < w4.heap.size) :
    RngI B w4.heap.size w4 (.slice (some ⟨g, 0, none⟩) (n + 1) cap) (xs ++ [x]) := by
  subst hn
  refine ⟨?_, fun b hb => ?_⟩
  · have := own_base' hown
    unfold OwnI
    simpa using this
  · simp [Value.ownBlock] at hb
    subst hb
    rcases hat with h1 | h1
    · have := h.at_ _ h1; omega
    · rw [h1] at hlt ⊢; simp at hlt ⊢; omega
theorem RngI.grow {B : Nat} {W wr w4 : World} {v : Value} {xs : List Int} {o : Obj} (h : RngI B wr.heap.size wr v xs) (hb : Below B W wr) (hB : B ≤ wr.heap.size) (hgrow : (wr.alloc o).grownBy w4 v.ownBlock) : Below B W w4 :=
  (hb.alloc hB o).grown hgrow (by simp; omega) (fun b hb' => (h.at_ b hb').1)

set_option maxRecDepth 100000 in
set_option maxHeartbeats 4000000 in
theorem implSinksOf_any (D : Int) (q : Value) (O : List Int) (w : World) (hq : Ints w q O) :
    Calls Try.prog 32 #[.agg #[.int .i64 D, q]] w (OutI w (skOut D O)) := by
  have HIS := Lib.hid (fun w' h => implIsCube_any D q O w' (hq.below h))
  cases hc : isCB D O
  · rw [hc] at HIS
    rw [skOut_no hc]
    obtain ⟨a, cap, rfl, _⟩ := hq
    clear hc
    go_enter Try.func32, Try.ntmps32
    go_wp2_with fail
    refine (HIS.out _ (by (repeat' (first | (with_reducible exact Below.refl _ _) | (with_reducible assumption) | (with_reducible refine Below.alloc ?_ ?_ _) | (with_reducible refine Below.drew ?_) | (with_reducible refine below_drewN ?_ _) | (with_reducible refine Below.setCell ?_ ?_ _) | (with_reducible refine Below.trans ?_ (Below.mono (by with_reducible assumption) ?_)) | (with_reducible exact Below.size (by with_reducible assumption)) | go_size)))).mono ?_; rintro e w1 ⟨rfl, hb1⟩
    have hw1 : Below w.heap.size w w1 := by (repeat' (first | (with_reducible exact Below.refl _ _) | (with_reducible assumption) | (with_reducible refine Below.alloc ?_ ?_ _) | (with_reducible refine Below.drew ?_) | (with_reducible refine below_drewN ?_ _) | (with_reducible refine Below.setCell ?_ ?_ _) | (with_reducible refine Below.trans ?_ (Below.mono (by with_reducible assumption) ?_)) | (with_reducible exact Below.size (by with_reducible assumption)) | go_size))
    go_wp2_with fail
    go_ret2
    exact outI_err hw1
  · rw [hc] at HIS
    rw [skOut_ok hc]
    obtain ⟨_, _, hl5, hl1⟩ := isCB_facts hc
    obtain ⟨b, off, cap, rfl, hb, hcell⟩ := Ints.at_ hq hl1
    have HC := Lib.hid hcell
    obtain ⟨j0, hj, hyy0, hyy1, hyy2⟩ := info_parts info_int
    clear hc hq hcell
    go_enter Try.func32, Try.ntmps32
    go_wp2_with fail
    refine (HIS.out _ (by (repeat' (first | (with_reducible exact Below.refl _ _) | (with_reducible assumption) | (with_reducible refine Below.alloc ?_ ?_ _) | (with_reducible refine Below.drew ?_) | (with_reducible refine below_drewN ?_ _) | (with_reducible refine Below.setCell ?_ ?_ _) | (with_reducible refine Below.trans ?_ (Below.mono (by with_reducible assumption) ?_)) | (with_reducible exact Below.size (by with_reducible assumption)) | go_size)))).mono ?_; rintro e w1 ⟨rfl, hb1⟩
    have hw1 : Below w.heap.size w w1 := by (repeat' (first | (with_reducible exact Below.refl _ _) | (with_reducible assumption) | (with_reducible refine Below.alloc ?_ ?_ _) | (with_reducible refine Below.drew ?_) | (with_reducible refine below_drewN ?_ _) | (with_reducible refine Below.setCell ?_ ?_ _) | (with_reducible refine Below.trans ?_ (Below.mono (by with_reducible assumption) ?_)) | (with_reducible exact Below.size (by with_reducible assumption)) | go_size))
    have x1 : w1.cell? ⟨w.heap.size, 1, none⟩ = some (.slice (some ⟨b, off, none⟩) O.length cap) := (hb1.cell (p := ⟨w.heap.size, 1, none⟩) (by simp)).trans (by simp)
    have hl : w.heap.size < w1.heap.size := by have := hb1.size; simp at this; omega
    clear hb1 HIS
    go_wp2_with fail
    go_loopw [4, 5, 6, 13] (fun v _ _ i wr => ∃ k : Nat, k ≤ O.length ∧ i = .int .i64 k ∧ RngI w1.heap.size wr.heap.size wr v (skTo O k) ∧ Below w1.heap.size w1 wr) (fun _ _ _ i _ => O.length - (intOf i).toNat)
    case atStart => exact ⟨0, Nat.zero_le _, by go_num, rngI_nil _ _ w1, Below.refl _ _⟩
    case round =>
      obtain ⟨k, hk, rfl, hI, hB⟩ := hrel
      have hzr := hB.size
      by_cases hlt : k < O.length
      · have t1 := ((hw1.trans (hB.mono hw1.size)).cell (p := ⟨b, off + k, none⟩) hb).trans (HC.out k hlt)
        have how := hI.owns
        obtain ⟨L, hL⟩ : ∃ L, L = (skTo O k).length := ⟨_, rfl⟩
        have hL5 : L ≤ 32 := by have := skTo_len O k; omega
        rw [← hL] at how
        have HL := Lib.hid hL
        have HOW := Lib.hid how
        have HI := Lib.hid hI
        have HB := Lib.hid hB
        obtain ⟨x, hx⟩ : ∃ x, x = O.getD k 0 := ⟨_, rfl⟩
        rw [← hx] at t1
        have HX := Lib.hid hx
        clear how hI hB hL hx
        by_cases h0 : x = 0
        · have HS := Lib.hid (skTo_yes (show O.getD k 0 = 0 by rw [← HX.out]; exact h0))
          subst h0
          go_wp2_with (at_builtin; refine wpList_append_lies _ rfl _ _ 23 rfl 0 2 j0 (.int .i64 0) 1 8 Try.underlying23 hj hyy0 hyy1 hyy2 rfl (by decide) u4 L _ rfl ((HOW.out).alloc _) _ 1 _ [.int .i64 k] rfl rfl (cell_one_new _ _ _) (by simp [Value.oneCell']) (by decide) (by unfold maxLen; omega) (by omega) (Nat.zero_le _) _ rfl ?_; intro g cap w3 hown hgrow hat hgl)
          have hpu := HI.out.push (by omega) HL.out hown hat hgl
          have hgr := HI.out.grow HB.out (by have := HB.out.size; omega) hgrow
          rw [← HS.out] at hpu
          have HPU := Lib.hid hpu
          have HGR := Lib.hid hgr
          clear hpu hgr hown hgrow hat hgl
          go_wp2_with fail
          go_roundw
          case rel => exact ⟨k + 1, by omega, by go_num, HPU.out, HGR.out⟩
          case measure => simp [intOf]; omega
        · have hs := skTo_no (show ¬ O.getD k 0 = 0 by rw [← HX.out]; exact h0)
          have hxb : (x == 0) = false := by simpa using h0
          have HI2 : Hid (RngI w1.heap.size wr.heap.size wr u4 (skTo O (k + 1))) := Lib.hid (by rw [hs]; exact HI.out)
          clear hs
          go_wp2_with fail
          go_roundw
          case rel => exact ⟨k + 1, by omega, by go_num, HI2.out, HB.out⟩
          case measure => simp [intOf]; omega
      · obtain rfl : k = O.length := by omega
        have HI := Lib.hid hI
        have HB := Lib.hid hB
        clear hI hB
        go_wp2_with fail
        go_ret2
        exact ⟨_, rfl, ⟨HI.out.own, fun b hb' => by have h1 := HI.out.at_ b hb'; have h2 := hw1.size; omega⟩, hw1.trans (HB.out.mono hw1.size)⟩
end Go.Proofs.Ytlccdnpicfmeaaa.PW
