/-
  Walks: the sinks of an orientation, in the model.
-/
import Derived.Test.YtlccdnpicfmeaaaCIs
namespace Go.Proofs.Ytlccdnpicfmeaaa.PW
open Go.RowKit Go.Proofs.Ytlccdnpicfmeaaa
open Go.Proofs.Ytlccdnpicfmeaaa.PM

def skTo (O : List Int) : Nat → List Int
  | 0 => []
  | k + 1 => if O.getD k 0 = 0 then skTo O k ++ [(k : Int)] else skTo O k
theorem skTo_yes {O : List Int} {k : Nat} (h : O.getD k 0 = 0) : skTo O (k + 1) = skTo O k ++ [(k : Int)] := by rw [skTo, if_pos h]
theorem skTo_no {O : List Int} {k : Nat} (h : ¬ O.getD k 0 = 0) : skTo O (k + 1) = skTo O k := by rw [skTo, if_neg h]
theorem skTo_len (O : List Int) : ∀ k, (skTo O k).length ≤ k
  | 0 => Nat.le_refl _
  | k + 1 => by
    have := skTo_len O k
    rw [skTo]
    split
    · rw [List.length_append]; simp; omega
    · omega
theorem skTo_in (O : List Int) : ∀ k, ∀ x ∈ skTo O k, 0 ≤ x ∧ x < (k : Int)
  | 0, x, h => (List.not_mem_nil h).elim
  | k + 1, x, h => by
    rw [skTo] at h
    split at h
    · rcases List.mem_append.1 h with h | h
      · have := skTo_in O k x h; omega
      · simp at h; omega
    · have := skTo_in O k x h; omega
def skOut (D : Int) (O : List Int) : List Int × Int := if isCB D O = true then (skTo O O.length, 0) else ([], 1)
theorem skOut_ok {D : Int} {O : List Int} (h : isCB D O = true) : skOut D O = (skTo O O.length, 0) := by unfold skOut; rw [if_pos h]
theorem skOut_no {D : Int} {O : List Int} (h : isCB D O = false) : skOut D O = ([], 1) := by unfold skOut; rw [if_neg (by simp [h])]
theorem isCB_facts {D : Int} {O : List Int} (h : isCB D O = true) : 1 ≤ D ∧ D ≤ 5 ∧ O.length ≤ 32 ∧ 1 ≤ O.length := by
  obtain ⟨⟨h1, h2⟩, h3, _⟩ := of_decide_eq_true h
  obtain ⟨n, rfl⟩ : ∃ n : Nat, D = (n : Int) := ⟨D.toNat, by omega⟩
  have hn : ((n : Int)).toNat = n := by omega
  rw [hn] at h3
  obtain rfl | rfl | rfl | rfl | rfl : n = 1 ∨ n = 2 ∨ n = 3 ∨ n = 4 ∨ n = 5 := by omega
  all_goals (simp at h3; omega)
theorem fine_sk (D : Int) (O : List Int) : FineI (skOut D O).1 := by
  cases h : isCB D O
  · rw [skOut_no h]; exact fineI_nil
  · rw [skOut_ok h]
    have h1 := (isCB_facts h).2.2.1
    have h2 := skTo_len O O.length
    exact ⟨fun x hx => by have := skTo_in O O.length x hx; show -9223372036854775808 ≤ _ ∧ _ ≤ 9223372036854775807; omega, by show (skTo O O.length).length ≤ _; omega⟩
theorem outI_err {w w' : World} {c : Int} (h : Below w.heap.size w w') : OutI w ([], c) (.returned (.tuple #[.slice none 0 0, .int .i64 c])) w' :=
  ⟨_, rfl, ⟨World.ownsRow_nil _ _ _ _, fun b hb => by simp [Value.ownBlock] at hb⟩, h⟩
theorem FreshI.rngC {B : Nat} {w : World} {v : Value} {xs : List Int} (h : FreshI B w v xs) : RngI B w.heap.size w v xs := by
  obtain ⟨g, cap, rfl, hB, hlt, ho⟩ := h
  exact ⟨ho, fun b hb => by simp [Value.ownBlock] at hb; omega⟩
theorem Ints.at_ {w : World} {v : Value} {O : List Int} (h : Ints w v O) (hn : 1 ≤ O.length) : ∃ b off c, v = .slice (some ⟨b, off, none⟩) O.length c ∧ b < w.heap.size ∧ ∀ k, k < O.length → w.cell? ⟨b, off + k, none⟩ = some (.int .i64 (O.getD k 0)) := by
  obtain ⟨a, cap, rfl, _, _, _, hx⟩ := h
  rcases hx with hx | ⟨b, off, rfl, hb, hc⟩
  · rw [hx] at hn; simp at hn
  · exact ⟨b, off, cap, rfl, hb, hc⟩

set_option maxRecDepth 100000 in
set_option maxHeartbeats 4000000 in
theorem specSinksOf_any (D : Int) (q : Value) (O : List Int) (w : World) (hq : Ints w q O) :
    Calls Try.prog 31 #[.agg #[.int .i64 D, q]] w (OutI w (skOut D O)) := by
  have HIS := Lib.hid (fun w' h => l06Is_any D q O w' (hq.below h))
  cases hc : isCB D O
  · rw [hc] at HIS
    rw [skOut_no hc]
    obtain ⟨a, cap, rfl, _⟩ := hq
    clear hc
    go_enter Try.func31, Try.ntmps31
    go_wp2_with fail
    refine (HIS.out _ (by (repeat' (first | (with_reducible exact Below.refl _ _) | (with_reducible assumption) | (with_reducible refine Below.alloc ?_ ?_ _) | (with_reducible refine Below.drew ?_) | (with_reducible refine below_drewN ?_ _) | (with_reducible refine Below.setCell ?_ ?_ _) | (with_reducible refine Below.trans ?_ (Below.mono (by with_reducible assumption) ?_)) | (with_reducible exact Below.size (by with_reducible assumption)) | go_size)))).mono ?_; rintro e w1 ⟨rfl, hb1⟩
    have hw1 : Below w.heap.size w w1 := by (repeat' (first | (with_reducible exact Below.refl _ _) | (with_reducible assumption) | (with_reducible refine Below.alloc ?_ ?_ _) | (with_reducible refine Below.drew ?_) | (with_reducible refine below_drewN ?_ _) | (with_reducible refine Below.setCell ?_ ?_ _) | (with_reducible refine Below.trans ?_ (Below.mono (by with_reducible assumption) ?_)) | (with_reducible exact Below.size (by with_reducible assumption)) | go_size))
    go_wp2_with fail
    go_ret2
    exact outI_err hw1
  · rw [hc] at HIS
    rw [skOut_ok hc]
    obtain ⟨_, _, hl5, hl1⟩ := isCB_facts hc
    obtain ⟨b, off, cap, rfl, hb, hcell⟩ := Ints.at_ hq hl1
    have HC := Lib.hid hcell
    obtain ⟨j0, hj, hyy0, hyy1, hyy2⟩ := info_parts info_int
    clear hc hq hcell
    go_enter Try.func31, Try.ntmps31
    go_wp2_with fail
    refine (HIS.out _ (by (repeat' (first | (with_reducible exact Below.refl _ _) | (with_reducible assumption) | (with_reducible refine Below.alloc ?_ ?_ _) | (with_reducible refine Below.drew ?_) | (with_reducible refine below_drewN ?_ _) | (with_reducible refine Below.setCell ?_ ?_ _) | (with_reducible refine Below.trans ?_ (Below.mono (by with_reducible assumption) ?_)) | (with_reducible exact Below.size (by with_reducible assumption)) | go_size)))).mono ?_; rintro e w1 ⟨rfl, hb1⟩
    have hw1 : Below w.heap.size w w1 := by (repeat' (first | (with_reducible exact Below.refl _ _) | (with_reducible assumption) | (with_reducible refine Below.alloc ?_ ?_ _) | (with_reducible refine Below.drew ?_) | (with_reducible refine below_drewN ?_ _) | (with_reducible refine Below.setCell ?_ ?_ _) | (with_reducible refine Below.trans ?_ (Below.mono (by with_reducible assumption) ?_)) | (with_reducible exact Below.size (by with_reducible assumption)) | go_size))
    have x1 : w1.cell? ⟨w.heap.size, 1, none⟩ = some (.slice (some ⟨b, off, none⟩) O.length cap) := (hb1.cell (p := ⟨w.heap.size, 1, none⟩) (by simp)).trans (by simp)
    have hl : w.heap.size < w1.heap.size := by have := hb1.size; simp at this; omega
    clear hb1 HIS
    go_wp2_with fail
    go_loopw [4, 5] (fun v i wr => ∃ k : Nat, k ≤ O.length ∧ i = .int .i64 k ∧ FreshI w1.heap.size wr v (skTo O k) ∧ Below w1.heap.size w1 wr) (fun _ i _ => O.length - (intOf i).toNat)
    case atStart => exact ⟨0, Nat.zero_le _, by go_num, freshI_nil w1, (Below.refl _ _).alloc (Nat.le_refl _) _⟩
    case round =>
      obtain ⟨k, hk, rfl, hI, hB⟩ := hrel
      have y1 := (hB.cell (p := ⟨w.heap.size, 1, none⟩) hl).trans x1
      have hzr := hB.size
      by_cases hlt : k < O.length
      · have t1 := ((hw1.trans (hB.mono hw1.size)).cell (p := ⟨b, off + k, none⟩) hb).trans (HC.out k hlt)
        have how := hI.owns
        obtain ⟨L, hL⟩ : ∃ L, L = (skTo O k).length := ⟨_, rfl⟩
        have hL5 : L ≤ 32 := by have := skTo_len O k; omega
        rw [← hL] at how
        have HL := Lib.hid hL
        have HOW := Lib.hid how
        have HI := Lib.hid hI
        have HB := Lib.hid hB
        obtain ⟨x, hx⟩ : ∃ x, x = O.getD k 0 := ⟨_, rfl⟩
        rw [← hx] at t1
        have HX := Lib.hid hx
        clear how hI hB hL hx
        by_cases h0 : x = 0
        · have HS := Lib.hid (skTo_yes (show O.getD k 0 = 0 by rw [← HX.out]; exact h0))
          subst h0
          go_wp2_with (at_builtin; refine wpList_append_lies _ rfl _ _ 23 rfl 0 2 j0 (.int .i64 0) 1 8 Try.underlying23 hj hyy0 hyy1 hyy2 rfl (by decide) u4 L _ rfl ((HOW.out).alloc _) _ 1 _ [.int .i64 k] rfl rfl (cell_one_new _ _ _) (by simp [Value.oneCell']) (by decide) (by unfold maxLen; omega) (by omega) (Nat.zero_le _) _ rfl ?_; intro g cap w3 hown hgrow hat hgl)
          have hpu := HI.out.push (by omega) HL.out hown hat hgl
          have hgr := HI.out.grow HB.out (by have := HB.out.size; omega) hgrow
          rw [← HS.out] at hpu
          have HPU := Lib.hid hpu
          have HGR := Lib.hid hgr
          clear hpu hgr hown hgrow hat hgl
          go_wp2_with fail
          go_roundw
          case rel => exact ⟨k + 1, by omega, by go_num, HPU.out, HGR.out⟩
          case measure => simp [intOf]; omega
        · have hs := skTo_no (show ¬ O.getD k 0 = 0 by rw [← HX.out]; exact h0)
          have hxb : (x == 0) = false := by simpa using h0
          have HI2 : Hid (FreshI w1.heap.size wr u4 (skTo O (k + 1))) := Lib.hid (by rw [hs]; exact HI.out)
          clear hs
          go_wp2_with fail
          go_roundw
          case rel => exact ⟨k + 1, by omega, by go_num, HI2.out, HB.out⟩
          case measure => simp [intOf]; omega
      · obtain rfl : k = O.length := by omega
        have HI := Lib.hid hI
        have HB := Lib.hid hB
        clear hI hB
        go_wp2_with fail
        go_ret2
        exact ⟨_, rfl, (HI.out.mono hw1.size).rngC, hw1.trans (HB.out.mono hw1.size)⟩
end Go.Proofs.Ytlccdnpicfmeaaa.PW
