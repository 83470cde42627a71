/-
  The iterators over basic and over feasible sets, as iterators that other ones may range over: what their consumers keep. The list of the feasible sets, in the program; the exact law of FeasibleSets.
-/
import Derived.Test.YtoifpjmhikgjgaaPNest
import Derived.Test.YtoifpjmhikgjgaaPBasB
import Derived.Test.YtoifpjmhikgjgaaPFeaA
namespace Go.Proofs.Ytoifpjmhikgjgaa.PW
open Go.RowKit Go.Shelf Go.Proofs.Ytoifpjmhikgjgaa
open Go.Proofs.Ytoifpjmhikgjgaa.PM Go.Proofs.Ytoifpjmhikgjgaa.PX
attribute [local go_sem] Oper.semAt_some

/-- A problem's box lies there, and what lay below lies as it lay. -/
def Lies (w0 : World) (Bs : Nat) (m q : Value) (W : World) : Prop := Below w0.heap.size w0 W ∧ W.heap[Bs]? = some (.cells #[m, q] 27 (0, 0))
theorem Lies.cell0 {w0 : World} {Bs : Nat} {m q : Value} {W : World} (h : Lies w0 Bs m q W) : W.cell? ⟨Bs, 0, none⟩ = some m := by simp [World.cell?, h.2]
theorem Lies.cell1 {w0 : World} {Bs : Nat} {m q : Value} {W : World} (h : Lies w0 Bs m q W) : W.cell? ⟨Bs, 1, none⟩ = some q := by simp [World.cell?, h.2]
theorem Lies.grow {w0 : World} {Bs : Nat} {m q : Value} {W W' : World} (h : Lies w0 Bs m q W) (hb : Below W.heap.size W W') : Lies w0 Bs m q W' :=
  ⟨h.1.trans (hb.mono h.1.size), (hb.block _ (Array.getElem?_eq_some_iff.1 h.2).1).trans h.2⟩
theorem Lies.keep {w0 : World} {Bs : Nat} {m q : Value} {W W' : World} {T' : TypeId → Prop} {lo hi : Nat} (h : Lies w0 Bs m q W) (hk : PR.Kept T' lo hi W W') (hlo : w0.heap.size ≤ lo) (hT : ¬ T' 27) : Lies w0 Bs m q W' :=
  ⟨h.1.trans (hk.below.mono hlo), hk.typed _ _ _ _ h.2 hT⟩
theorem Lies.turn {w0 : World} {Bs : Nat} {m q : Value} {W W' : World} {row : Option Nat} (h : Lies w0 Bs m q W) (hg : W.grownBy W' row) (hr : ∀ r, row = some r → w0.heap.size ≤ r ∧ ∃ o : Obj, W.heap[r]? = some o ∧ o.isCells = false) : Lies w0 Bs m q W' :=
  ⟨h.1.grown hg h.1.size (fun k e => (hr k e).1), (hg.block _ (Array.getElem?_eq_some_iff.1 h.2).1 (fun e => by
    obtain ⟨_, o, ho, hc⟩ := hr _ e.symm
    rw [h.2] at ho
    cases ho
    cases hc)).trans h.2⟩

set_option maxRecDepth 100000 in
set_option maxHeartbeats 2000000 in
theorem basic1_nests (a1 a2 : Option Addr) (c1 c2 n T : Nat) (M : List (List Int)) (Q : List Int) (Bs N lo : Nat) (T' : TypeId → Prop) (w0 w : World)
    (hn1 : 1 ≤ n) (hn5 : n ≤ 5) (hT : T = 2 ^ n) (hpt : ∀ k : Nat, k < T → (ptOut M Q k = ([], 5) ∧ basTo M (k + 1) = basTo M k) ∨ (ptOut M Q k = (ptL M Q k, 0) ∧ basTo M (k + 1) = basTo M k ++ [(k : Int)]))
    (hrm : PM.Rows w0 (.slice a1 n c1) M) (hrq : Ints w0 (.slice a2 n c2) Q) (hlo : w0.heap.size ≤ lo) (hbw : Below w0.heap.size w0 w) (hc : w.heap[Bs]? = some (.cells #[.slice a1 n c1, .slice a2 n c2] 27 (0, 0))) (hTP : ¬ T' 27) (hN : 32 ≤ N) :
    PR.Nests Fence.wide 7 Try.prog 108 #[.pointer (some ⟨Bs, 0, none⟩)] (fun x : Int × Value => #[.int .i64 (Prod.fst x), Prod.snd x]) T' lo (ptAt M Q T) (fun ys => ys.map Prod.fst = basTo M T) N w := by
  intro l J Jx W hW hJ hJx hY h0
  show CallsIn Fence.wide 7 Try.prog 108 #[.func (.yield l) #[] #[], .pointer (some ⟨Bs, 0, none⟩)] W _
  have hBz : Bs < w.heap.size := (Array.getElem?_eq_some_iff.1 hc).1
  have hW1 : Lies w0 Bs (.slice a1 n c1) (.slice a2 n c2) W := ⟨hbw.trans (hW.mono hbw.size), (hW.block _ hBz).trans hc⟩
  obtain ⟨Li, hLi⟩ : ∃ Li : World → Prop, Li = Lies w0 Bs (.slice a1 n c1) (.slice a2 n c2) := ⟨_, rfl⟩
  have LC0 := Lib.hid (fun (A : World) (h : Li A) => show A.cell? ⟨Bs, 0, none⟩ = some (.slice a1 n c1) by rw [hLi] at h; exact h.cell0)
  have LC1 := Lib.hid (fun (A : World) (h : Li A) => show A.cell? ⟨Bs, 1, none⟩ = some (.slice a2 n c2) by rw [hLi] at h; exact h.cell1)
  have LB := Lib.hid (fun (A : World) (h : Li A) => show Below w0.heap.size w0 A by rw [hLi] at h; exact h.1)
  have LG := Lib.hid (fun (A B : World) (h : Li A) (hb : Below A.heap.size A B) => show Li B by rw [hLi] at h ⊢; exact h.grow hb)
  have LK := Lib.hid (fun (A B : World) (h : Li A) (hb : PR.Kept T' lo W.heap.size A B) => show Li B by rw [hLi] at h ⊢; exact h.keep hb hlo hTP)
  have d0 := hW1.cell0
  rw [← hLi] at hW1
  have HPT := Lib.hid hpt
  have HM := Lib.hid hrm
  have HQ := Lib.hid hrq
  have HW := Lib.hid hW1
  have HL := Lib.hid (basTo_length M)
  have hN' : ∀ xs : List (Int × Value), ∀ k, k < T → xs.map Prod.fst = basTo M k → xs.length < N := fun xs k hk h => by
    have e := congrArg List.length h
    rw [List.length_map] at e
    have := basTo_length M k
    have : T ≤ 32 := by
      rw [hT]
      have := Nat.pow_le_pow_right (show 0 < 2 by omega) hn5
      simpa using this
    omega
  have HN := Lib.hid hN'
  clear hpt hrm hrq hN' hN hW hW1 hLi hc hbw
  obtain rfl | rfl | rfl | rfl | rfl : n = 1 ∨ n = 2 ∨ n = 3 ∨ n = 4 ∨ n = 5 := by omega
  all_goals
    simp only [Nat.reducePow] at hT
    refine callsIn_of_wp Try.func108 rfl trivial ?_ rfl
    simp only [Try.ntmps108, List.size_toArray, List.length_cons, List.length_nil, Nat.reduceAdd, Nat.reduceSub, Array.replicate_succ, Array.replicate_zero, List.push_toArray, List.append_toArray, List.nil_append, List.cons_append]
    gi_wp2
    gi_loopw [3, 4, 5, 10] (fun _ _ _ i wr => ∃ (k : Nat) (xs : List (Int × Value)), k ≤ T ∧ i = .int .i64 k ∧ xs.map Prod.fst = basTo M k ∧ J xs wr ∧ Li wr ∧ W.heap.size ≤ wr.heap.size) (fun _ _ _ i _ => T - (intOf i).toNat)
    case atStart => exact ⟨0, [], Nat.zero_le _, rfl, rfl, h0, HW.out, Nat.le_refl _⟩
    case round =>
      obtain ⟨k, xs, hk, rfl, hxs, hJs, hB, hz⟩ := hrel
      have d0 := LC0.out _ hB
      have d1 := LC1.out _ hB
      by_cases hlt : k < T
      · have hpo := implPointOf_any _ _ M Q k wr (HM.out.below (LB.out _ hB)) (HQ.out.below (LB.out _ hB))
        have hlen := HN.out xs k hlt hxs
        have HXS := Lib.hid hxs
        have HJS := Lib.hid hJs
        have HB := Lib.hid hB
        rcases HPT.out k hlt with ⟨hp1, hp2⟩ | ⟨hp1, hp2⟩
        · rw [hp1] at hpo
          rw [← hp2] at hxs
          have HPO := Lib.hid hpo
          have HX2 := Lib.hid hxs
          clear hpo hp1 hp2 hxs hJs hB
          gi_wp2_with fail
          refine ⟨trivial, ?_⟩
          gi_at_call 30
          refine (callsIn_wide.2 HPO.out).mono ?_
          rintro e w2 ho
          obtain ⟨a3, c3, rfl, hr, hb2⟩ := ho.out
          have hJ2 := hJ _ _ _ none HJS.out (grown_of_below hb2) (fun r e => by cases e)
          have hB2 := LG.out _ _ HB.out hb2
          have hz2 := hb2.size
          have HJ2 := Lib.hid hJ2
          have HB2 := Lib.hid hB2
          dsimp only
          clear ho hr hJ2 hB2
          gi_wp2
          refine ⟨fun _ h => (by cases h), ?_⟩
          gi_wp2
          go_roundw
          case rel => exact ⟨k + 1, xs, by omega, by go_num, HX2.out, HJ2.out, HB2.out, by omega⟩
          case measure => simp [intOf]; omega
        · rw [hp1] at hpo
          have hx2 : ∀ v : Value, (xs ++ [((k : Int), v)]).map Prod.fst = basTo M (k + 1) := fun v => by rw [List.map_append, hxs, hp2]; rfl
          have HPO := Lib.hid hpo
          have HX2 := Lib.hid hx2
          have HP2 := Lib.hid hp2
          clear hpo hp1 hp2 hxs hJs hB hx2
          gi_wp2_with fail
          refine ⟨trivial, ?_⟩
          gi_at_call 30
          refine (callsIn_wide.2 HPO.out).mono ?_
          rintro e w2 ho
          obtain ⟨a3, c3, rfl, hr, hb2⟩ := ho.out
          have hJ2 := hJ _ _ _ none HJS.out (grown_of_below hb2) (fun r e => by cases e)
          have hB2 := LG.out _ _ HB.out hb2
          have hz2 := hb2.size
          have HJ2 := Lib.hid hJ2
          have HB2 := Lib.hid hB2
          dsimp only at hr
          dsimp only
          have hE : ptAt M Q T ((k : Int), .slice a3 (ptL M Q k).length c3) w2 := ⟨hr.own, k, hlt, rfl, HP2.out⟩
          obtain ⟨L, hL⟩ : ∃ L, L = (ptL M Q k).length := ⟨_, rfl⟩
          rw [← hL] at hE ⊢
          clear ho hr hJ2 hB2 hL
          obtain ⟨fn, tmps, assign, body, hy, hR⟩ := hY _ ((k : Int), .slice a3 L c3) w2 HJ2.out hE hlen
          have HR := Lib.hid hR
          dsimp only at hy
          clear hR hE
          gi_wp2
          refine HR.out.mono ?_
          rintro e W3 ⟨⟨rfl, hJ3⟩ | ⟨rfl, hJx3⟩, hk3⟩
          · have HJ3 := Lib.hid hJ3
            have HB3 := Lib.hid (LK.out _ _ HB2.out hk3)
            have hz3 := hk3.below.size
            clear hJ3 hk3
            gi_wp2
            go_roundw
            case rel => exact ⟨k + 1, _, by omega, by go_num, HX2.out _, HJ3.out, HB3.out, by omega⟩
            case measure => simp [intOf]; omega
          · have HJ3 := Lib.hid hJx3
            clear hJx3
            gi_wp2
            refine bodyPost_ret (results_none rfl _ _ _) rfl ?_
            exact ⟨⟨_, rfl⟩, .inr ⟨_, HJ3.out⟩⟩
      · obtain rfl : k = T := by omega
        have HXS := Lib.hid hxs
        have HJS := Lib.hid hJs
        clear hxs hJs hB
        gi_wp2
        go_end0
        exact ⟨⟨_, rfl⟩, .inl ⟨_, HXS.out, HJS.out⟩⟩

theorem feaTo_filter (M : List (List Int)) (Q : List Int) (k : Nat) : feaTo M Q k = (basTo M k).filter fun s => nonneg (ptL M Q s) := by
  induction k with
  | zero => rfl
  | succ k ih =>
    rw [feaTo, basTo, ih, List.filter_append]
    by_cases hD : dt M.length (colS M k) = 0
    · rw [if_neg (by rw [feasB_zero hD]; exact Bool.noConfusion), if_pos hD]
      rfl
    · rw [if_neg hD, feasB_ok hD]
      cases h : nonneg (ptL M Q k)
      · simp [h]
      · simp [h]
theorem map_fea {M : List (List Int)} {Q : List Int} {T : Nat} {ys : List (Int × Value)} (h : ys.map Prod.fst = basTo M T) : (ys.filter fun x => nonneg (ptL M Q x.1)).map Prod.fst = feaTo M Q T := by
  rw [feaTo_filter, ← h]
  rw [List.filter_map]
  rfl

theorem feasiblePoints_in (m q : Value) (w : World) :
    CallsIn Fence.wide 7 Try.prog 86 #[.agg #[m, q]] w fun e w' => e = .returned (.func (.func 112) #[] #[.pointer (some ⟨w.heap.size, 0, none⟩)]) ∧ w' = w.alloc (.cells #[m, q] 27) := by
  refine callsIn_of_wp Try.func86 rfl trivial ?_ rfl
  simp only [Try.ntmps86, List.size_toArray, List.length_cons, List.length_nil, Nat.reduceAdd, Nat.reduceSub, Array.replicate_succ, Array.replicate_zero, List.push_toArray, List.append_toArray, List.nil_append, List.cons_append]
  gi_wp2
  go_ret
  exact ⟨rfl, rfl⟩

set_option maxRecDepth 100000 in
set_option maxHeartbeats 2000000 in
theorem feas1_nests (a1 a2 : Option Addr) (c1 c2 n T : Nat) (M : List (List Int)) (Q : List Int) (Bs lo : Nat) (T' : TypeId → Prop) (w0 w : World)
    (hp : isPB M Q = true) (hn : n = M.length) (hT : T = 2 ^ n)
    (hrm : PM.Rows w0 (.slice a1 n c1) M) (hrq : Ints w0 (.slice a2 n c2) Q) (hlo : w0.heap.size ≤ lo) (hlo2 : lo ≤ w.heap.size) (hbw : Below w0.heap.size w0 w) (hc : w.heap[Bs]? = some (.cells #[.slice a1 n c1, .slice a2 n c2] 27 (0, 0))) (hTP : ¬ T' 27) (hTF : ¬ T' 109) :
    PR.Nests Fence.wide 8 Try.prog 112 #[.pointer (some ⟨Bs, 0, none⟩)] (fun x : Int × Value => #[.int .i64 (Prod.fst x), Prod.snd x]) T' lo (fun x W => ptAt M Q T x W ∧ nonneg (ptL M Q x.1) = true) (fun ys => ys.map Prod.fst = feaTo M Q T) 32 w := by
  intro l J Jx W hW hJ hJx hY h0
  show CallsIn Fence.wide 8 Try.prog 112 #[.func (.yield l) #[] #[], .pointer (some ⟨Bs, 0, none⟩)] W _
  obtain ⟨f1, f2, _, _, _⟩ := isPB_facts hp
  have hBz : Bs < w.heap.size := (Array.getElem?_eq_some_iff.1 hc).1
  have hL1 : Lies w0 Bs (.slice a1 n c1) (.slice a2 n c2) W := ⟨hbw.trans (hW.mono hbw.size), (hW.block _ hBz).trans hc⟩
  have d0 := hL1.cell0
  have d1 := hL1.cell1
  have hBW : Bs < W.heap.size := (Array.getElem?_eq_some_iff.1 hL1.2).1
  obtain ⟨W0, hW0⟩ : ∃ W0, W0 = (W.alloc (.cells #[.func (.yield l) #[] #[]] 109)).alloc (.cells #[.slice a1 n c1, .slice a2 n c2] 27) := ⟨_, rfl⟩
  have hB0 : Below W.heap.size W W0 := by rw [hW0]; exact ((Below.refl _ _).alloc (Nat.le_refl _) _).alloc (by simp) _
  have y0 : W0.heap[W.heap.size]? = some (.cells #[.func (.yield l) #[] #[]] 109 (0, 0)) := by
    rw [hW0]
    exact (Below.heap_alloc _ _ _ (by simp)).trans (World.alloc_heap_new W _)
  have p0 : W0.heap[W.heap.size + 1]? = some (.cells #[.slice a1 n c1, .slice a2 n c2] 27 (0, 0)) := by
    rw [hW0]
    have := World.alloc_heap_new (W.alloc (.cells #[.func (.yield l) #[] #[]] 109)) (.cells #[.slice a1 n c1, .slice a2 n c2] 27)
    rwa [World.size_alloc] at this
  have hz0 : W0.heap.size = W.heap.size + 2 := by rw [hW0]; simp
  have hL2 : Lies w0 (W.heap.size + 1) (.slice a1 n c1) (.slice a2 n c2) W0 := ⟨hL1.1.trans (hB0.mono hL1.1.size), p0⟩
  have hJ0 : J [] W0 := hJ _ _ _ none h0 (grown_of_below hB0) (fun r e => by cases e)
  have hbn := basic1_nests a1 a2 c1 c2 n T M Q (W.heap.size + 1) 32 lo T' w0 W0 (by omega) (by omega) hT (by rw [hT, hn]; exact pt_bas hp) hrm hrq hlo hL2.1 p0 hTP (Nat.le_refl _)
  have hn1 : 1 ≤ n := by omega
  have hn5 : n ≤ 5 := by omega
  have hloW : lo ≤ W.heap.size := Nat.le_trans hlo2 hW.size
  have HBN := Lib.hid hbn
  have HP := Lib.hid hp
  have HN := Lib.hid hn
  have HT := Lib.hid hT
  have HTF := Lib.hid hTF
  have HTP := Lib.hid hTP
  have HY := Lib.hid hY
  have HJ := Lib.hid hJ
  have HJX := Lib.hid hJx
  have HJ0 := Lib.hid hJ0
  have HW0 := Lib.hid hW0
  have HL2 := Lib.hid hL2
  have Y0 := Lib.hid y0
  have HZ0 := Lib.hid hz0
  have HLA : Hid (lo ≤ W0.heap.size) := Lib.hid (by omega)
  have HLB : Hid (w0.heap.size ≤ W0.heap.size) := Lib.hid (by omega)
  clear hz0 hbn hp hn hT hTF hTP hY hJ hJx hJ0 hW0 hL1 hL2 h0 p0 y0 hbw hrm hrq hc hB0 hW
  refine callsIn_of_wp_marks Try.func112 rfl trivial ?_ rfl
  simp only [Try.ntmps112, List.size_toArray, List.length_cons, List.length_nil, Nat.reduceAdd, Nat.reduceSub, Array.replicate_succ, Array.replicate_zero, List.push_toArray, List.append_toArray, List.nil_append, List.cons_append]
  gi_wp2_with fail
  refine ⟨trivial, ?_⟩
  gi_at_call 76
  refine (callsIn_wide.2 (callsIn_wide.1 (basicPoints_in _ _ _))).mono ?_
  rintro e w2 ⟨rfl, rfl⟩
  gi_wp2_with fail
  rw [← HW0.out]
  clear HW0
  refine PR.wpIn_rangeFunc_nests (α := Int × Value) (T := T') (lo := lo) rfl (by omega) (gf := 108) (lb := #[.pointer (some ⟨W.heap.size + 1, 0, none⟩)]) rfl trivial (enters_of Try.func108 (by kernel_rfl) rfl)
    HBN.out HLA.out (Below.refl _ _) (fun _ => rfl)
    (fun x W l o o' hl ho h => ⟨ownsRow_putObj h.1 o' hl ho, h.2⟩)
    (fun (pre : List (Int × Value)) V => J (pre.filter fun x => nonneg (ptL M Q x.1)) V ∧ Lies w0 (W.heap.size + 1) (.slice a1 n c1) (.slice a2 n c2) V ∧ V.heap[W.heap.size]? = some (.cells #[.func (.yield l) #[] #[]] 109 (0, 0)))
    (fun _ V => ∃ p, Jx p V)
    (fun s X Y row hs hg hr => ⟨HJ.out _ X Y row hs.1 hg (fun r e => ⟨by have := (hr r e).1; have := HZ0.out; omega, (hr r e).2⟩), hs.2.1.turn hg (fun r e => ⟨Nat.le_trans HLB.out (hr r e).1, (hr r e).2⟩), (hg.block _ (Array.getElem?_eq_some_iff.1 hs.2.2).1 (fun e => by have := (hr _ e.symm).1; have := HZ0.out; omega)).trans hs.2.2⟩)
    (fun s X Y row hs hg hr => by obtain ⟨p, hp⟩ := hs; exact ⟨p, HJX.out _ X Y row hp hg (fun r e => ⟨by have := (hr r e).1; have := HZ0.out; omega, (hr r e).2⟩)⟩)
    ⟨HJ0.out, HL2.out, Y0.out⟩
    ?a1 ?assign ?body ?done ?stop
  case assign =>
    intro l x W K hK
    gi_wp2
    exact hK
  case body =>
    rintro l2 pre ⟨x, y⟩ V ⟨hj, hL, hyf⟩ ⟨hO, k, hk, hxk, hbas⟩ hlt hz2
    dsimp only at hO hxk
    subst hxk
    have hll : (ptL M Q k).length = n := by rw [HN.out]; unfold ptL; simp
    obtain ⟨g, cap, rfl, hgl⟩ : ∃ g cap, y = .slice (some ⟨g, 0, none⟩) n cap ∧ g < V.heap.size := by
      rcases hO.cases with ⟨_, hn⟩ | ⟨g, cap, hv, hlt⟩
      · rw [hn] at hll; simp at hll; omega
      · exact ⟨g, cap, by rw [hv, hll], hlt⟩
    have hfl : (pre.filter fun x => nonneg (ptL M Q x.1)).length < 32 := Nat.lt_of_le_of_lt (List.length_filter_le _ _) hlt
    have hnn := fun (W' : World) (hb : Below V.heap.size V W') => areNonnegative_any (.slice (some ⟨g, 0, none⟩) n cap) (ptL M Q k) W' (hO.below hb hgl) (by omega)
    have hE3 := fun (W' : World) (hb : Below V.heap.size V W') => (⟨hO.below hb hgl, k, hk, rfl, hbas⟩ : ptAt M Q T ((k : Int), .slice (some ⟨g, 0, none⟩) n cap) W')
    have hJ3 := fun (W' : World) (hb : Below V.heap.size V W') => HJ.out _ _ _ none hj (grown_of_below hb) (fun r e => by cases e)
    have hL3 := fun (W' : World) (hb : Below V.heap.size V W') => hL.grow hb
    have hy3 := fun (W' : World) (hb : Below V.heap.size V W') => (hb.block _ (Array.getElem?_eq_some_iff.1 hyf).1).trans hyf
    have hY3 := fun (W' : World) (hb : Below V.heap.size V W') (hq : nonneg (ptL M Q k) = true) => PR.yieldAt_inRound (l' := l2) (PR.yieldAt_wide (k := 5) (HY.out _ ((k : Int), .slice (some ⟨g, 0, none⟩) n cap) W' (hJ3 W' hb) ⟨hE3 W' hb, hq⟩ hfl))
    have cy : V.cell? ⟨W.heap.size, 0, none⟩ = some (.func (.yield l) #[] #[]) := by simp [World.cell?, hyf]
    have hVz : W.heap.size < V.heap.size := (Array.getElem?_eq_some_iff.1 hyf).1
    cases hz : nonneg (ptL M Q k)
    case false =>
      have hfe : ((pre ++ [((k : Int), Value.slice (some ⟨g, 0, none⟩) n cap)]).filter fun x => nonneg (ptL M Q x.1)) = pre.filter fun x => nonneg (ptL M Q x.1) := by
        rw [List.filter_append]
        simp [hz]
      have HFE := Lib.hid hfe
      rw [hz] at hnn
      have HNN := Lib.hid hnn
      have HJ3 := Lib.hid hJ3
      have HL3 := Lib.hid hL3
      have HY3 := Lib.hid hy3
      clear hfe hz hnn hE3 hJ3 hL3 hy3 hY3 hO hj hL hyf hbas hll hfl
      gi_wp2_with fail
      refine ⟨trivial, ?_⟩
      gi_at_call 82
      refine (CallsIn.inRound l2 (callsIn_wide.2 (HNN.out _ (Below.refl _ _)))).mono ?_
      rintro e w3 ⟨rfl, hb3⟩
      have HB3 := Lib.hid hb3
      have hsz := hb3.size
      clear hb3
      gi_wp2
      refine ⟨fun _ h => (by cases h), ?_⟩
      gi_wp2
      exact ⟨PR.Kept.of_below HB3.out (by omega), by rw [HFE.out]; exact HJ3.out _ HB3.out, HL3.out _ HB3.out, HY3.out _ HB3.out⟩
    case true =>
      have hfe : ((pre ++ [((k : Int), Value.slice (some ⟨g, 0, none⟩) n cap)]).filter fun x => nonneg (ptL M Q x.1)) = (pre.filter fun x => nonneg (ptL M Q x.1)) ++ [((k : Int), Value.slice (some ⟨g, 0, none⟩) n cap)] := by
        rw [List.filter_append]
        simp [hz]
      have HFE := Lib.hid hfe
      rw [hz] at hnn
      have HNN := Lib.hid hnn
      have HJ3 := Lib.hid hJ3
      have HL3 := Lib.hid hL3
      have HY3 := Lib.hid hy3
      have HYA := Lib.hid (fun (W' : World) (hb : Below V.heap.size V W') => hY3 W' hb hz)
      clear hfe hz hnn hE3 hJ3 hL3 hy3 hY3 hO hj hL hyf hbas hll hfl
      gi_wp2_with fail
      refine ⟨trivial, ?_⟩
      gi_at_call 82
      refine (CallsIn.inRound l2 (callsIn_wide.2 (HNN.out _ (Below.refl _ _)))).mono ?_
      rintro e w3 ⟨rfl, hb3⟩
      have HB3 := Lib.hid hb3
      have hsz := hb3.size
      have cy3 := (hb3.cell (p := ⟨W.heap.size, 0, none⟩) hVz).trans cy
      obtain ⟨fn, tmps, assign, body, hy, hR⟩ := HYA.out _ hb3
      have HR := Lib.hid hR
      clear hb3 hR
      gi_wp2
      refine HR.out.mono ?_
      rintro e W3 ⟨⟨rfl, hJ4⟩ | ⟨rfl, hJx4⟩, hk4⟩
      · have HJ4 := Lib.hid hJ4
        have HK4 := Lib.hid hk4
        clear hJ4 hk4
        gi_wp2
        exact ⟨(PR.Kept.of_below HB3.out (by omega)).trans (HK4.out.later (by have := HZ0.out; omega)), by rw [HFE.out]; exact HJ4.out, (HL3.out _ HB3.out).keep HK4.out hlo HTP.out, HK4.out.typed _ _ _ _ (HY3.out _ HB3.out) HTF.out⟩
      · have HJ4 := Lib.hid hJx4
        have HK4 := Lib.hid hk4
        clear hJx4 hk4
        gi_wp2
        exact ⟨(PR.Kept.of_below HB3.out (by omega)).trans (HK4.out.later (by have := HZ0.out; omega)), _, HJ4.out⟩
  case done =>
    rintro D ys V hD hys ⟨hj, hL, hyf⟩ hK
    have HJ5 := Lib.hid (HJ.out.putObj (.deferred none) hj (by have := HZ0.out; omega) hK rfl)
    have HF5 := Lib.hid (map_fea (Q := Q) hys)
    clear hj hL hyf hys
    gi_wp2
    refine ⟨by simp, .inl ⟨_, _, rfl, run_takeDeferred hK, ?_⟩⟩
    exact ⟨_, results_none rfl _ _ _, ⟨_, rfl⟩, .inl ⟨_, HF5.out, HJ5.out⟩⟩
  case stop =>
    rintro D pre V hD ⟨p, hj⟩ hK
    have HJ5 := Lib.hid (HJX.out.putObj (.deferred none) hj (by have := HZ0.out; omega) hK rfl)
    clear hj
    gi_wp2
    refine ⟨by simp, .inl ⟨_, _, rfl, run_takeDeferred hK, ?_⟩⟩
    exact ⟨_, results_none rfl _ _ _, ⟨_, rfl⟩, .inr ⟨_, HJ5.out⟩⟩

set_option maxRecDepth 100000 in
set_option maxHeartbeats 2000000 in
theorem setsOf_feas (a1 a2 : Option Addr) (c1 c2 n : Nat) (M : List (List Int)) (Q : List Int) (Bs : Nat) (w : World) (hp : isPB M Q = true) (hn : n = M.length)
    (hrm : PM.Rows w (.slice a1 n c1) M) (hrq : Ints w (.slice a2 n c2) Q) (hc : w.heap[Bs]? = some (.cells #[.slice a1 n c1, .slice a2 n c2] 27 (0, 0))) :
    CallsIn Fence.wide 9 Try.prog 75 #[.func (.func 112) #[] #[.pointer (some ⟨Bs, 0, none⟩)]] w fun e w' => ∃ v, e = .returned v ∧ RngI w.heap.size w'.heap.size w' v (feaTo M Q (2 ^ n)) ∧ Below w.heap.size w w' := by
  obtain ⟨T', hT'⟩ : ∃ T' : TypeId → Prop, T' = fun t => t = 2 ∨ t = 23 := ⟨_, rfl⟩
  have hTi : T' 2 := by rw [hT']; exact .inl rfl
  have hTs : T' 23 := by rw [hT']; exact .inr rfl
  have hTP : ¬ T' 27 := by rw [hT']; decide
  have hTF : ¬ T' 109 := by rw [hT']; decide
  have hst := fun (W : World) (hW : Below w.heap.size w W) => feas1_nests a1 a2 c1 c2 n (2 ^ n) M Q Bs w.heap.size T' w W hp hn rfl hrm hrq (Nat.le_refl _) hW.size hW ((hW.block _ (Array.getElem?_eq_some_iff.1 hc).1).trans hc) hTP hTF
  obtain ⟨T, hT⟩ : ∃ T, T = feaTo M Q (2 ^ n) := ⟨_, rfl⟩
  rw [← hT] at hst ⊢
  have HST := Lib.hid hst
  have HTI := Lib.hid hTi
  have HTS := Lib.hid hTs
  clear hst hT hp hn hrm hrq hc hT' hTi hTs hTP hTF
  obtain ⟨i0, hi, hz0, hz1, hz2⟩ := info_parts info_int
  refine callsIn_of_wp_marks Try.func75 rfl trivial ?_ rfl
  simp only [Try.ntmps75, List.size_toArray, List.length_cons, List.length_nil, Nat.reduceAdd, Nat.reduceSub, Array.replicate_succ, Array.replicate_zero, List.push_toArray, List.append_toArray, List.nil_append, List.cons_append]
  gi_wp2_with fail
  have bO := Boxed.new w 23 (.slice none 0 0)
  refine PR.wpIn_rangeFunc_nests (α := Int × Value) (T := T') (lo := w.heap.size) rfl (by omega) (gf := 112) (lb := #[.pointer (some ⟨Bs, 0, none⟩)]) rfl trivial (enters_of Try.func112 (by kernel_rfl) rfl)
    (HST.out _ ((Below.refl _ w).alloc (Nat.le_refl _) _)) (by simp) (Below.refl _ _) (fun _ => rfl)
    (fun x W l o o' hl ho h => ⟨⟨ownsRow_putObj h.1.1 o' hl ho, h.1.2⟩, h.2⟩)
    (fun (pre : List (Int × Value)) W => (∃ v, Boxed W w.heap.size 23 v ∧ W.ownsRow w.heap.size 2 1 v pre.length (pre.map fun x => Value.int .i64 x.1) ∧ True) ∧ Below w.heap.size w W)
    (fun _ _ => False)
    (OwnFrom.and (Own.from (holdsRow_own w.heap.size w.heap.size 23 2 1 (fun (pre : List (Int × Value)) => pre.length) (fun (pre : List (Int × Value)) => pre.map fun x => Value.int .i64 x.1) (fun _ _ => True)) _) (ownFrom_below (Nat.le_refl _) (by simp)))
    (fun _ _ _ _ hs _ _ => hs)
    ⟨⟨_, bO, World.ownsRow_nil _ _ _ _, trivial⟩, (Below.refl _ w).alloc (Nat.le_refl _) _⟩
    ?a1 ?assign ?body ?done ?stop
  case assign =>
    intro l x W K hK
    gi_wp2
    exact hK
  case body =>
    rintro l pre ⟨x, y⟩ W ⟨⟨v, hv, hrow, _⟩, hB⟩ _ hlt _
    have hc := hv.cell
    gi_wp2_with (gi_at_builtin; refine wpListIn_append_own _ rfl _ _ 23 rfl w.heap.size 2 i0 (.int .i64 0) 1 8 Try.underlying23 hi hz0 hz1 hz2 rfl (by decide) _ _ _ rfl (hrow.alloc _) ⟨W.heap.size, 0, none⟩ 1 1 [.int .i64 x] rfl rfl (cell_one_new _ _ _) (by simp [Value.oneCell']) (by unfold maxLen; omega) (by omega) (by have := hB.size; simp; omega) ?_; intro v' w1 hown' hgrow _; obtain ⟨g', cap', rfl⟩ := ownsRow_succ hown'; obtain ⟨hv1, hv2, hr2, hk2, hb2⟩ := hv.appended (by decide) hrow hB.size (Nat.le_refl _) hown' hgrow; have hty := PR.appended_typed (v' := .slice (some ⟨g', 0, none⟩) (pre.length + 1) cap') hv hrow hgrow HTS.out HTI.out; have hc1 := hv1.cell; have hf1 := hv1.frozen)
    have e1 : (pre ++ [(x, y)]).length = pre.length + 1 := by simp
    have e2 : ((pre ++ [(x, y)]).map fun x => Value.int .i64 x.1) = (pre.map fun x => Value.int .i64 x.1) ++ [Value.int .i64 x] := by rw [List.map_append]; rfl
    refine ⟨⟨hb2, hk2.from _, hty⟩, ⟨_, hv2, ?_⟩, hB.trans hb2⟩
    rw [e1, e2]
    exact hr2
  case done =>
    rintro D ys W hD hys ⟨⟨v, hv, hrow, _⟩, hB⟩ hK
    have hc := hv.cell
    have e1 : ys.length = T.length := by rw [← hys, List.length_map]
    have e2 : (ys.map fun x => Value.int .i64 x.1) = T.map (Value.int .i64) := by rw [← hys, List.map_map]; rfl
    rw [e1, e2] at hrow
    clear e1 e2 hys
    gi_wp2
    refine ⟨by simp, .inl ⟨_, _, rfl, run_takeDeferred hK, ?_⟩⟩
    exact ⟨_, results_tmp rfl _ _ _, v, rfl, rngI_of_owns (ownsRow_putObj hrow _ hK rfl), hB.trans (belowK_b (w := w) (Nat.le_refl _) W D _ _ (by simp at hD; omega) hK rfl rfl)⟩
  case stop =>
    rintro D pre W _ h _
    exact h.elim

set_option maxHeartbeats 1000000 in
theorem implFeasibleSets_any (m q : Value) (M : List (List Int)) (Q : List Int) (w : World) (h1 : PM.Rows w m M) (h2 : Ints w q Q) :
    Calls Try.prog 46 #[.agg #[m, q]] w (OutI w (fsOut M Q)) := by
  have g1 := fun (w' : World) (h : Below w.heap.size w w') => h1.below h
  have g2 := fun (w' : World) (h : Below w.heap.size w w') => h2.below h
  obtain ⟨a1, c1, rfl, _⟩ := h1
  obtain ⟨a2, c2, rfl, _⟩ := h2
  cases hp : isPB M Q
  · rw [fsOut_no hp]
    have HP := Lib.hid hp
    clear hp
    go_enter Try.func46, Try.ntmps46
    go_wp2_with fail
    refine (implIsProblem_any _ _ M Q _ (g1 _ (by (repeat' (first | (with_reducible exact Below.refl _ _) | (with_reducible assumption) | (with_reducible refine Below.alloc ?_ ?_ _) | (with_reducible refine Below.drew ?_) | (with_reducible refine below_drewN ?_ _) | (with_reducible refine Below.setCell ?_ ?_ _) | (with_reducible refine Below.trans ?_ (Below.mono (by with_reducible assumption) ?_)) | (with_reducible exact Below.size (by with_reducible assumption)) | go_size)))) (g2 _ (by (repeat' (first | (with_reducible exact Below.refl _ _) | (with_reducible assumption) | (with_reducible refine Below.alloc ?_ ?_ _) | (with_reducible refine Below.drew ?_) | (with_reducible refine below_drewN ?_ _) | (with_reducible refine Below.setCell ?_ ?_ _) | (with_reducible refine Below.trans ?_ (Below.mono (by with_reducible assumption) ?_)) | (with_reducible exact Below.size (by with_reducible assumption)) | go_size))))).mono ?_; rw [HP.out]; rintro e w1 ⟨rfl, hb1⟩; obtain ⟨hc_hb1, hf_hb1⟩ := bcell hb1; obtain ⟨hcA_hb1, hfA_hb1⟩ := bcellG (W0 := w) hb1 (by (repeat' (first | (with_reducible exact Below.refl _ _) | (with_reducible assumption) | (with_reducible refine Below.alloc ?_ ?_ _) | (with_reducible refine Below.drew ?_) | (with_reducible refine below_drewN ?_ _) | (with_reducible refine Below.setCell ?_ ?_ _) | (with_reducible refine Below.trans ?_ (Below.mono (by with_reducible assumption) ?_)) | (with_reducible exact Below.size (by with_reducible assumption)) | go_size))); have hz_hb1 := hb1.size; (try simp at hz_hb1); (try simp only [Nat.add_one_le_iff] at hz_hb1); have hz0_hb1 : w.heap.size < w1.heap.size := (by omega)
    go_wp2_with fail
    go_ret2
    exact outI_nil (by (repeat' (first | (with_reducible exact Below.refl _ _) | (with_reducible assumption) | (with_reducible refine Below.alloc ?_ ?_ _) | (with_reducible refine Below.drew ?_) | (with_reducible refine below_drewN ?_ _) | (with_reducible refine Below.setCell ?_ ?_ _) | (with_reducible refine Below.trans ?_ (Below.mono (by with_reducible assumption) ?_)) | (with_reducible exact Below.size (by with_reducible assumption)) | go_size)))
  · rw [fsOut_ok hp]
    have HP := Lib.hid hp
    have hql := (isPB_facts hp).2.2.1
    rw [hql] at g2 ⊢
    clear hp hql
    go_enter Try.func46, Try.ntmps46
    go_wp2_with fail
    refine (implIsProblem_any _ _ M Q _ (g1 _ (by (repeat' (first | (with_reducible exact Below.refl _ _) | (with_reducible assumption) | (with_reducible refine Below.alloc ?_ ?_ _) | (with_reducible refine Below.drew ?_) | (with_reducible refine below_drewN ?_ _) | (with_reducible refine Below.setCell ?_ ?_ _) | (with_reducible refine Below.trans ?_ (Below.mono (by with_reducible assumption) ?_)) | (with_reducible exact Below.size (by with_reducible assumption)) | go_size)))) (g2 _ (by (repeat' (first | (with_reducible exact Below.refl _ _) | (with_reducible assumption) | (with_reducible refine Below.alloc ?_ ?_ _) | (with_reducible refine Below.drew ?_) | (with_reducible refine below_drewN ?_ _) | (with_reducible refine Below.setCell ?_ ?_ _) | (with_reducible refine Below.trans ?_ (Below.mono (by with_reducible assumption) ?_)) | (with_reducible exact Below.size (by with_reducible assumption)) | go_size))))).mono ?_; rw [HP.out]; rintro e w1 ⟨rfl, hb1⟩; obtain ⟨hc_hb1, hf_hb1⟩ := bcell hb1; obtain ⟨hcA_hb1, hfA_hb1⟩ := bcellG (W0 := w) hb1 (by (repeat' (first | (with_reducible exact Below.refl _ _) | (with_reducible assumption) | (with_reducible refine Below.alloc ?_ ?_ _) | (with_reducible refine Below.drew ?_) | (with_reducible refine below_drewN ?_ _) | (with_reducible refine Below.setCell ?_ ?_ _) | (with_reducible refine Below.trans ?_ (Below.mono (by with_reducible assumption) ?_)) | (with_reducible exact Below.size (by with_reducible assumption)) | go_size))); have hz_hb1 := hb1.size; (try simp at hz_hb1); (try simp only [Nat.add_one_le_iff] at hz_hb1); have hz0_hb1 : w.heap.size < w1.heap.size := (by omega)
    have hw1 : Below w.heap.size w w1 := by (repeat' (first | (with_reducible exact Below.refl _ _) | (with_reducible assumption) | (with_reducible refine Below.alloc ?_ ?_ _) | (with_reducible refine Below.drew ?_) | (with_reducible refine below_drewN ?_ _) | (with_reducible refine Below.setCell ?_ ?_ _) | (with_reducible refine Below.trans ?_ (Below.mono (by with_reducible assumption) ?_)) | (with_reducible exact Below.size (by with_reducible assumption)) | go_size))
    go_wp2_with fail
    refine (callsIn_wide.1 (feasiblePoints_in _ _ _)).mono ?_; rintro e w2 ⟨rfl, rfl⟩
    have hw2 : Below w.heap.size w (w1.alloc (.cells #[.slice a1 M.length c1, .slice a2 M.length c2] 27)) := hw1.alloc hw1.size _
    have hso := setsOf_feas a1 a2 c1 c2 M.length M Q w1.heap.size _ HP.out rfl (g1 _ hw2) (g2 _ hw2) (World.alloc_heap_new w1 _)
    have HSO := Lib.hid hso
    have HW2 := Lib.hid hw2
    clear hso hw2
    go_wp2_with fail
    refine (callsIn_wide.1 HSO.out).mono ?_
    rintro e w3 ⟨v, rfl, hr, hb3⟩
    have hw3 := HW2.out.trans (hb3.mono HW2.out.size)
    have HR := Lib.hid hr
    have HZ := Lib.hid HW2.out.size
    clear hr
    go_wp2_with fail
    go_ret2
    exact ⟨_, rfl, ⟨HR.out.own, fun b hb => ⟨Nat.le_trans HZ.out (HR.out.at_ b hb).1, (HR.out.at_ b hb).2⟩⟩, hw3⟩
end Go.Proofs.Ytoifpjmhikgjgaa.PW
