/-
  The best replies: plain mathematics, and their walk in the program.
-/
import Derived.Test.YtnefglpcbekmhaaGPay
import Derived.Test.YtnefglpcbekmhaaPAnsR
namespace Go.Proofs.Ytnefglpcbekmhaa.PW
open Go.RowKit Go.Proofs.Ytnefglpcbekmhaa
open Go.Proofs.Ytnefglpcbekmhaa.PM

/-- The first k places at which r stands. -/
def repTo (O : List Int) (r : Int) : Nat → List Int
  | 0 => []
  | k + 1 => if O.getD k 0 = r then repTo O r k ++ [(k : Int)] else repTo O r k
theorem repTo_yes {O : List Int} {r : Int} {k : Nat} (h : O.getD k 0 = r) : repTo O r (k + 1) = repTo O r k ++ [(k : Int)] := by rw [repTo, if_pos h]
theorem repTo_no {O : List Int} {r : Int} {k : Nat} (h : ¬ O.getD k 0 = r) : repTo O r (k + 1) = repTo O r k := by rw [repTo, if_neg h]
theorem repTo_len (O : List Int) (r : Int) : ∀ k, (repTo O r k).length ≤ k
  | 0 => Nat.le_refl _
  | k + 1 => by
    have := repTo_len O r k
    rw [repTo]
    split
    · rw [List.length_append]; simp; omega
    · omega
theorem repTo_in (O : List Int) (r : Int) : ∀ k, ∀ x ∈ repTo O r k, 0 ≤ x ∧ x < (k : Int)
  | 0, x, h => (List.not_mem_nil h).elim
  | k + 1, x, h => by
    rw [repTo] at h
    split at h
    · rcases List.mem_append.1 h with h | h
      · have := repTo_in O r k x h; omega
      · simp at h; omega
    · have := repTo_in O r k x h; omega
/-- The greatest of the first k numbers and 0. -/
def bestTo (O : List Int) : Nat → Int
  | 0 => 0
  | k + 1 => max (bestTo O k) (O.getD k 0)
theorem bestTo_is {O : List Int} (hp : ∀ j, j < O.length → 0 ≤ O.getD j 0) : ∀ k, k ≤ O.length → 0 ≤ bestTo O k ∧ (∀ j, j < k → O.getD j 0 ≤ bestTo O k) ∧ (0 < k → ∃ j, j < k ∧ bestTo O k = O.getD j 0)
  | 0, _ => ⟨Int.le_refl _, fun j hj => absurd hj (Nat.not_lt_zero _), fun h => absurd h (Nat.lt_irrefl _)⟩
  | k + 1, h => by
    obtain ⟨h0, h1, h2⟩ := bestTo_is hp k (by omega)
    have hk := hp k (by omega)
    rw [bestTo]
    refine ⟨by omega, fun j hj => ?_, fun _ => ?_⟩
    · by_cases e : j = k
      · subst e; omega
      · have := h1 j (by omega); omega
    · by_cases e : bestTo O k ≤ O.getD k 0
      · exact ⟨k, by omega, by omega⟩
      · rcases Nat.eq_zero_or_pos k with rfl | hk0
        · have h00 : bestTo O 0 = 0 := rfl
          omega
        · obtain ⟨j, hj, e2⟩ := h2 hk0
          exact ⟨j, by omega, by omega⟩
def repL (O : List Int) : List Int := repTo O (bestTo O O.length) O.length

/-- A list of the call's own memory, or none. -/
def OrI (B : Nat) (w : World) (v : Value) (xs : List Int) : Prop := w.ownsRow B 2 1 v xs.length (xs.map (Value.int .i64))
theorem orI_nil (B : Nat) (w : World) : OrI B w (.slice none 0 0) [] := World.ownsRow_nil _ _ _ _
theorem OrI.at_ {B : Nat} {w : World} {v : Value} {xs : List Int} (h : OrI B w v xs) : ∀ b, v.ownBlock = some b → B ≤ b := by
  rcases h.2 with ⟨rfl, _⟩ | ⟨g, cap, cur, rfl, hb, _⟩
  · intro b hb; simp [Value.ownBlock] at hb
  · intro b hb'; simp [Value.ownBlock] at hb'; omega
theorem OrI.lt {B : Nat} {w : World} {v : Value} {xs : List Int} (h : OrI B w v xs) : ∀ b, v.ownBlock = some b → b < w.heap.size := by
  rcases h.2 with ⟨rfl, _⟩ | ⟨g, cap, cur, rfl, hb, hg, _⟩
  · intro b hb; simp [Value.ownBlock] at hb
  · intro b hb'
    simp [Value.ownBlock] at hb'
    subst hb'
    rcases Nat.lt_or_ge g w.heap.size with h' | h'
    · exact h'
    · rw [Array.getElem?_eq_none h'] at hg; cases hg
theorem OrI.push {B g cap n : Nat} {w4 : World} {xs : List Int} {x : Int} (hn : n = xs.length)
    (hown : w4.ownsRow B 2 1 (.slice (some ⟨g, 0, none⟩) (n + 1) cap) (n + 1) (xs.map (Value.int .i64) ++ [.int .i64 x])) : OrI B w4 (.slice (some ⟨g, 0, none⟩) (n + 1) cap) (xs ++ [x]) := by
  subst hn
  unfold OrI
  simpa using hown
theorem OrI.grow {B : Nat} {W wr w4 : World} {v : Value} {xs : List Int} {o : Obj} (h : OrI B wr v xs) (hb : Below B W wr) (hB : B ≤ wr.heap.size) (hgrow : (wr.alloc o).grownBy w4 v.ownBlock) : Below B W w4 :=
  (hb.alloc hB o).grown hgrow (by simp; omega) (fun b hb' => h.at_ b hb')
theorem OrI.mono {B C : Nat} {w : World} {v : Value} {xs : List Int} (h : OrI B w v xs) (hC : C ≤ B) : OrI C w v xs := by
  refine ⟨h.1, ?_⟩
  rcases h.2 with h2 | ⟨g, cap, cur, hv, hb, r⟩
  · exact .inl h2
  · exact .inr ⟨g, cap, cur, hv, Nat.le_trans hC hb, r⟩
theorem OrI.rng {B : Nat} {w : World} {v : Value} {xs : List Int} (h : OrI B w v xs) : RngI B w.heap.size w v xs :=
  ⟨own_base' h, fun b hb => ⟨h.at_ b hb, h.lt b hb⟩⟩

set_option maxRecDepth 100000 in
set_option maxHeartbeats 2000000 in
theorem bestReplies_any (iv sv : Value) (P : List Int) (w : World) (hn1 : 1 ≤ P.length) (hn5 : P.length ≤ 5) (hP : ∀ j, j < P.length → 0 ≤ P.getD j 0) (hPI : ∀ x ∈ P, I64 x)
    (hpay : Calls Try.prog 94 #[iv, sv] w fun e w' => ∃ g, e = .returned (.slice (some ⟨g, 0, none⟩) P.length P.length) ∧ FreshI w.heap.size w' (.slice (some ⟨g, 0, none⟩) P.length P.length) P ∧ Below w.heap.size w w') :
    Calls Try.prog 88 #[iv, sv] w fun e w' => ∃ v, e = .returned v ∧ OrI w.heap.size w' v (repL P) ∧ Below w.heap.size w w' := by
  obtain ⟨j0, hj, hyy0, hyy1, hyy2⟩ := info_parts info_int
  have HPAY := Lib.hid hpay
  have hbi := bestTo_is hP P.length (Nat.le_refl _)
  unfold repL
  obtain ⟨r, hr⟩ : ∃ r, r = bestTo P P.length := ⟨_, rfl⟩
  rw [← hr] at hbi ⊢
  have HMX := Lib.hid (show (∀ j, j < P.length → P.getD j 0 ≤ r) ∧ ∃ j, j < P.length ∧ r = P.getD j 0 from ⟨hbi.2.1, hbi.2.2 hn1⟩)
  have HPI := Lib.hid hPI
  clear hpay hbi hr hP hPI
  go_enter Try.func88, Try.ntmps88
  go_wp2_with fail
  refine HPAY.out.mono ?_
  rintro e w1 ⟨g, rfl, hF, hb1⟩
  have HMC := Lib.hid (listMax_is _ P w1 (OwnI.ints (show OwnI w1 _ P from hF.owns) HPI.out) hn1 r HMX.out)
  obtain ⟨_, _, hvv, hgw, hz5, hoo⟩ := id hF
  have hg1 : g < w1.heap.size := by simp at hvv; omega
  have hce : ∀ j, j < P.length → w1.cell? ⟨g, j, none⟩ = some (.int .i64 (P.getD j 0)) := fun j hj => by
    rw [own_cellN hoo rfl hj]
  have HCE := Lib.hid hce
  have HB1 := Lib.hid hb1
  clear hF hvv hgw hz5 hoo hce hb1 HPAY HMX
  go_wp2_with fail
  refine HMC.out.mono ?_
  rintro e w2 ⟨rfl, rfl⟩
  go_wp2_with fail
  go_loopw [7, 8, 9, 17] (fun v _ _ i wr => ∃ k : Nat, k ≤ P.length ∧ i = .int .i64 k ∧ OrI w1.heap.size wr v (repTo P r k) ∧ Below w1.heap.size w1 wr) (fun _ _ _ i _ => P.length - (intOf i).toNat)
  case atStart => exact ⟨0, Nat.zero_le _, rfl, orI_nil _ _, Below.refl _ _⟩
  case round =>
    obtain ⟨k, hk, rfl, hO, hB⟩ := hrel
    by_cases hlt : k < P.length
    · have t1 := (hB.cell (p := ⟨g, k, none⟩) hg1).trans (HCE.out k hlt)
      have hlen := repTo_len P r k
      have HO := Lib.hid hO
      have HB := Lib.hid hB
      have hzz := hB.size
      obtain ⟨n, hn⟩ : ∃ n, n = (repTo P r k).length := ⟨_, rfl⟩
      have how := hO
      unfold OrI at how
      rw [← hn] at how hlen
      have HOW := Lib.hid how
      have HN := Lib.hid hn
      obtain ⟨x, hx⟩ : ∃ x, x = P.getD k 0 := ⟨_, rfl⟩
      rw [← hx] at t1
      have HX := Lib.hid hx
      clear how hO hB hn hx
      by_cases he : x = r
      · have HS := Lib.hid (repTo_yes (show P.getD k 0 = r by rw [← HX.out]; exact he))
        have hxr : (x == r) = true := by simp [he]
        clear he
        go_wp2_with (at_builtin; refine wpList_append_lies _ rfl _ _ 23 rfl w1.heap.size 2 j0 (.int .i64 0) 1 8 Try.underlying23 hj hyy0 hyy1 hyy2 rfl (by decide) u7 n _ rfl ((HOW.out).alloc _) _ 1 _ [.int .i64 k] rfl rfl (cell_one_new _ _ _) (by simp [Value.oneCell']) (by decide) (by unfold maxLen; omega) (by omega) (by simp; omega) _ rfl ?_; intro g' cap w3 hown hgrow hat hgl)
        have hpu := OrI.push HN.out hown
        have hgr := HO.out.grow HB.out HB.out.size hgrow
        rw [← HS.out] at hpu
        have HPU := Lib.hid hpu
        have HGR := Lib.hid hgr
        clear hpu hgr hown hgrow hat hgl
        go_wp2_with fail
        go_roundw
        case rel => exact ⟨k + 1, by omega, by go_num, HPU.out, HGR.out⟩
        case measure => simp [intOf]; omega
      · have hs := repTo_no (show ¬ P.getD k 0 = r by rw [← HX.out]; exact he)
        have hxr : (x == r) = false := by simp [he]
        have HI2 : Hid (OrI w1.heap.size wr u7 (repTo P r (k + 1))) := Lib.hid (by rw [hs]; exact HO.out)
        clear hs
        go_wp2_with fail
        go_roundw
        case rel => exact ⟨k + 1, by omega, by go_num, HI2.out, HB.out⟩
        case measure => simp [intOf]; omega
    · obtain rfl : k = P.length := by omega
      have HO := Lib.hid hO
      have HB := Lib.hid hB
      clear hO hB
      go_wp2_with fail
      go_ret
      refine ⟨_, rfl, ?_, HB1.out.trans (HB.out.mono HB1.out.size)⟩
      exact HO.out.mono HB1.out.size
end Go.Proofs.Ytnefglpcbekmhaa.PW
