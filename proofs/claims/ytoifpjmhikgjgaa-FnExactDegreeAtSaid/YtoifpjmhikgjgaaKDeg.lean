/-
  The degree of a problem: the sets of the cover list with points inside, one after the other; the signs of their minors, in the program.
-/
import Derived.Test.YtoifpjmhikgjgaaPFec
import Derived.Test.YtoifpjmhikgjgaaPMin
import Derived.Test.YtoifpjmhikgjgaaQPDet
import Derived.Test.YtoifpjmhikgjgaaPDegA
namespace Go.Proofs.Ytoifpjmhikgjgaa.PW
open Go.RowKit Go.Shelf Go.Proofs.Ytoifpjmhikgjgaa
open Go.Proofs.Ytoifpjmhikgjgaa.PM Go.Proofs.Ytoifpjmhikgjgaa.PX
attribute [local go_sem] Oper.semAt_some

/-- Is the right side inner in all cones of the cover list? -/
def innB (M : List (List Int)) (Q : List Int) : Bool := (feaTo M Q (2 ^ M.length)).all fun s => !hasZ (ptL M Q s)
theorem innB_no {M : List (List Int)} {Q : List Int} {k : Nat} (hk : k < 2 ^ M.length) (hb : basTo M (k + 1) = basTo M k ++ [(k : Int)]) (hn : nonneg (ptL M Q k) = true) (hz : hasZ (ptL M Q k) = true) : innB M Q = false := by
  have hm : ∀ d, (k : Int) ∈ feaTo M Q (k + 1 + d) := by
    intro d
    induction d with
    | zero =>
      rw [Nat.add_zero, feaTo_filter, hb, List.filter_append]
      simp [hn]
    | succ d ih => rw [Nat.add_succ, feaTo]; exact List.mem_append_left _ ih
  have := hm (2 ^ M.length - (k + 1))
  rw [show k + 1 + (2 ^ M.length - (k + 1)) = 2 ^ M.length by omega] at this
  unfold innB
  rw [List.all_eq_false]
  exact ⟨_, this, by simp [hz]⟩
theorem innB_yes {M : List (List Int)} {Q : List Int} {ys : List (Int × Value)} (hy : ys.map Prod.fst = feaTo M Q (2 ^ M.length)) (h : ∀ x ∈ ys, hasZ (ptL M Q x.1) = false) : innB M Q = true := by
  unfold innB
  rw [List.all_eq_true]
  intro s hs
  rw [← hy] at hs
  obtain ⟨x, hx, rfl⟩ := List.mem_map.1 hs
  rw [h x hx]
  rfl

set_option maxRecDepth 100000 in
set_option maxHeartbeats 4000000 in
theorem innerList_in (a1 a2 : Option Addr) (c1 c2 n : Nat) (M : List (List Int)) (Q : List Int) (w : World) (hp : isPB M Q = true) (hn : n = M.length)
    (hrm : PM.Rows w (.slice a1 n c1) M) (hrq : Ints w (.slice a2 n c2) Q) :
    CallsIn Fence.wide 9 Try.prog 91 #[.agg #[.slice a1 n c1, .slice a2 n c2]] w fun e w' => ∃ v, e = .returned (.tuple #[v, .bool (innB M Q)]) ∧ (innB M Q = true → RngI w.heap.size w'.heap.size w' v (feaTo M Q (2 ^ n))) ∧ Below w.heap.size w w' := by
  obtain ⟨T', hT'⟩ : ∃ T' : TypeId → Prop, T' = fun t => t = 2 ∨ t = 23 ∨ t = 4 := ⟨_, rfl⟩
  have hTi : T' 2 := by rw [hT']; exact .inl rfl
  have hTs : T' 23 := by rw [hT']; exact .inr (.inl rfl)
  have hTb : T' 4 := by rw [hT']; exact .inr (.inr rfl)
  have hTP : ¬ T' 27 := by rw [hT']; decide
  have hTF : ¬ T' 109 := by rw [hT']; decide
  have hst := fun (Bs : Nat) (W : World) (hW : Below w.heap.size w W) (hc : W.heap[Bs]? = some (.cells #[.slice a1 n c1, .slice a2 n c2] 27 (0, 0))) => feas1_nests a1 a2 c1 c2 n (2 ^ n) M Q Bs w.heap.size T' w W hp hn rfl hrm hrq (Nat.le_refl _) hW.size hW hc hTP hTF
  have hin := fun (ys : List (Int × Value)) (h : ys.map Prod.fst = feaTo M Q (2 ^ n)) h2 => innB_yes (M := M) (Q := Q) (ys := ys) (by rw [h, hn]) h2
  have hno := fun (k : Nat) (h1 : k < 2 ^ n) h2 h3 h4 => innB_no (M := M) (Q := Q) (k := k) (by rw [← hn]; exact h1) h2 h3 h4
  obtain ⟨T, hT⟩ : ∃ T, T = feaTo M Q (2 ^ n) := ⟨_, rfl⟩
  obtain ⟨B, hB⟩ : ∃ B, B = innB M Q := ⟨_, rfl⟩
  rw [← hT] at hst hin ⊢
  rw [← hB] at hin hno ⊢
  have f1 := (isPB_facts hp).1
  have f2 := (isPB_facts hp).2.1
  have hn1 : 1 ≤ n := by omega
  have hn5 : n ≤ 5 := by omega
  have hll : ∀ k : Int, (ptL M Q k).length = n := fun k => by rw [hn]; unfold ptL; simp
  have hpz := fun (k : Nat) (hb : basTo M (k + 1) = basTo M k ++ [(k : Int)]) (j : Nat) (hj : j < n) h => pt_zero hp (bas_ne hb) j (by rw [← hn]; exact hj) h
  have HST := Lib.hid hst
  have HIN := Lib.hid hin
  have HNO := Lib.hid hno
  have HLL := Lib.hid hll
  have HPZ := Lib.hid hpz
  have HTI := Lib.hid hTi
  have HTS := Lib.hid hTs
  have HTB := Lib.hid hTb
  clear hst hin hno hll hpz hT hB hp hn hrm hrq hT' hTi hTs hTb hTP hTF f1 f2
  obtain ⟨i0, hi, hz0, hz1, hz2⟩ := info_parts info_int
  refine callsIn_of_wp_marks Try.func91 rfl trivial ?_ rfl
  simp only [Try.ntmps91, List.size_toArray, List.length_cons, List.length_nil, Nat.reduceAdd, Nat.reduceSub, Array.replicate_succ, Array.replicate_zero, List.push_toArray, List.append_toArray, List.nil_append, List.cons_append]
  gi_wp2_with fail
  refine ⟨trivial, ?_⟩
  gi_at_call 86
  refine (callsIn_wide.2 (callsIn_wide.1 (feasiblePoints_in _ _ _))).mono ?_
  rintro e w2 ⟨rfl, rfl⟩
  gi_wp2_with fail
  obtain ⟨V0, hV0⟩ : ∃ V0, ((((w.alloc (.cells #[.slice a1 n c1, .slice a2 n c2] 27)).alloc (.cells #[.slice none 0 0] 23)).alloc (.cells #[.bool false] 4)).alloc (.cells #[.slice none 0 0] 23)).alloc (.cells #[.slice a1 n c1, .slice a2 n c2] 27) = V0 := ⟨_, rfl⟩
  have r1 : Boxed V0 (w.heap.size + 1) 23 (.slice none 0 0) := by
    have := (((Boxed.new (w.alloc (.cells #[.slice a1 n c1, .slice a2 n c2] 27)) 23 (.slice none 0 0)).alloc (.cells #[.bool false] 4)).alloc (.cells #[.slice none 0 0] 23)).alloc (.cells #[.slice a1 n c1, .slice a2 n c2] 27)
    rw [hV0] at this
    simpa using this
  have r2 : Boxed V0 (w.heap.size + 1 + 1) 4 (.bool false) := by
    have := ((Boxed.new ((w.alloc (.cells #[.slice a1 n c1, .slice a2 n c2] 27)).alloc (.cells #[.slice none 0 0] 23)) 4 (.bool false)).alloc (.cells #[.slice none 0 0] 23)).alloc (.cells #[.slice a1 n c1, .slice a2 n c2] 27)
    rw [hV0] at this
    simpa using this
  have r3 : Boxed V0 (w.heap.size + 1 + 1 + 1) 23 (.slice none 0 0) := by
    have := (Boxed.new (((w.alloc (.cells #[.slice a1 n c1, .slice a2 n c2] 27)).alloc (.cells #[.slice none 0 0] 23)).alloc (.cells #[.bool false] 4)) 23 (.slice none 0 0)).alloc (.cells #[.slice a1 n c1, .slice a2 n c2] 27)
    rw [hV0] at this
    simpa using this
  have r4 : V0.heap[w.heap.size + 1 + 1 + 1 + 1]? = some (.cells #[.slice a1 n c1, .slice a2 n c2] 27 (0, 0)) := by
    have := World.alloc_heap_new ((((w.alloc (.cells #[.slice a1 n c1, .slice a2 n c2] 27)).alloc (.cells #[.slice none 0 0] 23)).alloc (.cells #[.bool false] 4)).alloc (.cells #[.slice none 0 0] 23)) (.cells #[.slice a1 n c1, .slice a2 n c2] 27)
    rw [hV0] at this
    simpa using this
  have hb0 : Below w.heap.size w V0 := by rw [← hV0]; (repeat' (first | (with_reducible exact Below.refl _ _) | (with_reducible assumption) | (with_reducible refine Below.alloc ?_ ?_ _) | (with_reducible refine Below.drew ?_) | (with_reducible refine below_drewN ?_ _) | (with_reducible refine Below.setCell ?_ ?_ _) | (with_reducible refine Below.trans ?_ (Below.mono (by with_reducible assumption) ?_)) | (with_reducible exact Below.size (by with_reducible assumption)) | go_size))
  have hs0 : V0.heap.size = w.heap.size + 5 := by rw [← hV0]; simp
  rw [hV0]
  clear hV0
  have hnest := HST.out _ _ hb0 r4
  have HNEST := Lib.hid hnest
  have HS0 := Lib.hid hs0
  have HLO : Hid (w.heap.size ≤ V0.heap.size) := Lib.hid hb0.size
  clear hnest HST hs0 r4
  refine PR.wpIn_rangeFunc_nests (α := Int × Value) (T := T') (lo := w.heap.size) rfl (by omega) (gf := 112) (lb := #[.pointer (some ⟨w.heap.size + 1 + 1 + 1 + 1, 0, none⟩)]) rfl trivial (enters_of Try.func112 (by kernel_rfl) rfl)
    HNEST.out HLO.out (Below.refl _ _) (fun _ => rfl)
    (fun x W l o o' hl ho h => ⟨⟨ownsRow_putObj h.1.1 o' hl ho, h.1.2⟩, h.2⟩)
    (fun (pre : List (Int × Value)) W => (∃ v, Boxed W (w.heap.size + 1 + 1 + 1) 23 v ∧ W.ownsRow w.heap.size 2 1 v pre.length (pre.map fun x => Value.int .i64 x.1) ∧ True) ∧ ((∀ x ∈ pre, hasZ (ptL M Q x.1) = false) ∧ Boxed W (w.heap.size + 1) 23 (.slice none 0 0) ∧ Boxed W (w.heap.size + 1 + 1) 4 (.bool false)) ∧ Below w.heap.size w W)
    (fun _ W => (B = false ∧ Boxed W (w.heap.size + 1) 23 (.slice none 0 0) ∧ Boxed W (w.heap.size + 1 + 1) 4 (.bool false)) ∧ Below w.heap.size w W)
    (OwnFrom.and (Own.from (holdsRow_own w.heap.size (w.heap.size + 1 + 1 + 1) 23 2 1 (fun (pre : List (Int × Value)) => pre.length) (fun (pre : List (Int × Value)) => pre.map fun x => Value.int .i64 x.1) (fun _ _ => True)) _)
      (OwnFrom.and (fun s X Y row hs hg hr => by
        have hk := KC.of hg (fun r e => (hr r e).2)
        exact ⟨hs.1, hk.same _ _ _ _ hs.2.1, hk.same _ _ _ _ hs.2.2⟩) (ownFrom_below (Nat.le_refl _) HLO.out)))
    (OwnFrom.and (fun s X Y row hs hg hr => by
      have hk := KC.of hg (fun r e => (hr r e).2)
      exact ⟨hs.1, hk.same _ _ _ _ hs.2.1, hk.same _ _ _ _ hs.2.2⟩) (ownFrom_below (Nat.le_refl _) HLO.out))
    ⟨⟨_, r3, World.ownsRow_nil _ _ _ _, trivial⟩, ⟨fun x hx => by simp at hx, r1, r2⟩, hb0⟩
    ?a1 ?assign ?body ?done ?stop
  case assign =>
    intro l x W K hK
    gi_wp2
    exact hK
  case body =>
    rintro l pre ⟨x, y⟩ W ⟨⟨v, hv, hrow, _⟩, ⟨hnz, q1, q2⟩, hB⟩ ⟨⟨hO, k, hk, hxk, hbas⟩, hnn⟩ hlt hWz
    dsimp only at hO hxk hnn
    subst hxk
    have hll := HLL.out k
    obtain ⟨g, cap, rfl, hgl⟩ : ∃ g cap, y = .slice (some ⟨g, 0, none⟩) n cap ∧ g < W.heap.size := by
      rcases hO.cases with ⟨_, hn⟩ | ⟨g, cap, hv, hlt⟩
      · rw [hn] at hll; simp at hll; omega
      · exact ⟨g, cap, by rw [hv, hll], hlt⟩
    have hct := fun (W' : World) (hb : Below W.heap.size W W') => containsF_any g cap n (ptL M Q k) W' (hO.below hb hgl) hll.symm (Nat.lt_of_lt_of_le hgl hb.size) (by omega) (fun j hj h => HPZ.out k hbas j hj h)
    have hzw := q1.lt
    have hzw2 := q2.lt
    have hzw3 := hv.lt
    have K1 := Lib.hid (fun (W' : World) (hb : Below W.heap.size W W') => boxed_low q1 hb)
    have K2 := Lib.hid (fun (W' : World) (hb : Below W.heap.size W W') => boxed_low q2 hb)
    have K3 := Lib.hid (fun (W' : World) (hb : Below W.heap.size W W') => boxed_low hv hb)
    have KR := Lib.hid (fun (W' : World) (hb : Below W.heap.size W W') => (KC.of (grown_of_below hb) (fun r e => by cases e)).own hrow)
    cases hz : hasZ (ptL M Q k)
    case true =>
      have HB0 := Lib.hid (HNO.out k hk hbas hnn hz)
      rw [hz] at hct
      have HCT := Lib.hid hct
      have HB := Lib.hid hB
      clear hct hz hbas hnn hnz hO hll q1 q2 hv hrow hB
      gi_wp2_with fail
      refine ⟨trivial, ?_⟩
      gi_at_call 85
      refine (CallsIn.inRound l (callsIn_wide.2 (zeroF_any _))).mono ?_
      rintro e w3 ⟨rfl, hb3⟩
      gi_wp2_with fail
      refine ⟨trivial, ?_⟩
      gi_at_call 84
      refine (CallsIn.inRound l (callsIn_wide.2 (HCT.out _ hb3))).mono ?_
      rintro e w4 ⟨rfl, hb4⟩
      have hb34 := hb3.trans (hb4.mono hb3.size)
      have q1 := K1.out _ hb34
      have q2 := K2.out _ hb34
      have c1 := q1.cell
      have c2 := q2.cell
      have e1 := q1.frozen
      have e2 := q2.frozen
      have Q1 := Lib.hid q1
      have Q2 := Lib.hid q2
      have HB4 := Lib.hid hb34
      clear q1 q2 hb3 hb4 hb34
      gi_wp2
      have q2b : Boxed (w4.setCell ⟨w.heap.size + 1, 0, none⟩ (.slice none 0 0)) (w.heap.size + 1 + 1) 4 (.bool false) := Q2.out.other (by omega) _
      refine ⟨((PR.Kept.of_below HB4.out (by omega)).trans (PR.Kept.setBox Q1.out _ HTS.out (by omega))).trans (PR.Kept.setBox q2b _ HTB.out (by omega)), ⟨HB0.out, (Q1.out.set _).other (by omega) _, q2b.set _⟩, ?_⟩
      exact ((HB.out.trans (HB4.out.mono HB.out.size)).setCell (p := ⟨w.heap.size + 1, 0, none⟩) (by show _ ≤ _ + 1; omega) _).setCell (p := ⟨w.heap.size + 1 + 1, 0, none⟩) (by show _ ≤ _ + 1 + 1; omega) _
    case false =>
      have HNZ : Hid (∀ x ∈ pre ++ [((k : Int), Value.slice (some ⟨g, 0, none⟩) n cap)], hasZ (ptL M Q x.1) = false) := Lib.hid (fun x hx => by
        rw [List.mem_append] at hx
        rcases hx with hx | hx
        · exact hnz x hx
        · simp at hx; rw [hx]; exact hz)
      rw [hz] at hct
      have HCT := Lib.hid hct
      have HB := Lib.hid hB
      clear hct hz hbas hnn hnz hO hll q1 q2 hv hrow hB
      gi_wp2_with fail
      refine ⟨trivial, ?_⟩
      gi_at_call 85
      refine (CallsIn.inRound l (callsIn_wide.2 (zeroF_any _))).mono ?_
      rintro e w3 ⟨rfl, hb3⟩
      gi_wp2_with fail
      refine ⟨trivial, ?_⟩
      gi_at_call 84
      refine (CallsIn.inRound l (callsIn_wide.2 (HCT.out _ hb3))).mono ?_
      rintro e w4 ⟨rfl, hb4⟩
      have hb34 := hb3.trans (hb4.mono hb3.size)
      have Q1 := Lib.hid (K1.out _ hb34)
      have Q2 := Lib.hid (K2.out _ hb34)
      have hv := K3.out _ hb34
      have hrow := KR.out _ hb34
      have hc := hv.cell
      have HB4 := Lib.hid hb34
      have hW4 := HB.out.trans (hb34.mono HB.out.size)
      have HW4 := Lib.hid hW4
      have HS4 := Lib.hid hW4.size
      clear hb3 hb4 hb34 hW4
      gi_wp2_with (gi_at_builtin; refine wpListIn_append_own _ rfl _ _ 23 rfl w.heap.size 2 i0 (.int .i64 0) 1 8 Try.underlying23 hi hz0 hz1 hz2 rfl (by decide) _ _ _ rfl (hrow.alloc _) ⟨w4.heap.size, 0, none⟩ 1 1 [.int .i64 k] rfl rfl (cell_one_new _ _ _) (by simp [Value.oneCell']) (by unfold maxLen; omega) (by omega) (by have := HS4.out; simp; omega) ?_; intro v' w5 hown' hgrow _; obtain ⟨g', cap', rfl⟩ := ownsRow_succ hown'; obtain ⟨hv1, hv2, hr2, hk2, hb2⟩ := hv.appended (by decide) hrow HS4.out (by show w.heap.size ≤ _ + 1 + 1 + 1; omega) hown' hgrow; have hty := PR.appended_typed (v' := .slice (some ⟨g', 0, none⟩) (pre.length + 1) cap') hv hrow hgrow HTS.out HTI.out; have q5 := (Q1.out.alloc (.cells #[.int .i64 k] 2)).kept hgrow (Q1.out.not_row (by decide) hrow); have q6 := (Q2.out.alloc (.cells #[.int .i64 k] 2)).kept hgrow (Q2.out.not_row (by decide) hrow); have Q5 := Lib.hid q5; have Q6 := Lib.hid q6; clear q5 q6; have hc1 := hv1.cell; have hf1 := hv1.frozen)
      have e1 : (pre ++ [((k : Int), Value.slice (some ⟨g, 0, none⟩) n cap)]).length = pre.length + 1 := by simp
      have e2 : ((pre ++ [((k : Int), Value.slice (some ⟨g, 0, none⟩) n cap)]).map fun x => Value.int .i64 x.1) = (pre.map fun x => Value.int .i64 x.1) ++ [Value.int .i64 (k : Int)] := by rw [List.map_append]; rfl
      refine ⟨(PR.Kept.of_below HB4.out (by omega)).trans ⟨hb2, hk2.from _, hty⟩, ⟨_, hv2, ?_⟩, ⟨HNZ.out, Q5.out.other (by omega) _, Q6.out.other (by omega) _⟩, HW4.out.trans hb2⟩
      rw [e1, e2]
      exact ⟨hr2, trivial⟩
  case done =>
    rintro D ys W hD hys ⟨⟨v, hv, hrow, _⟩, ⟨hnz, q1, q2⟩, hB⟩ hK
    have hbt := HIN.out ys hys hnz
    have HBT := Lib.hid hbt
    have hc := hv.cell
    have c1 := q1.cell
    have c2 := q2.cell
    have f1 := q1.frozen
    have f2 := q2.frozen
    have e1 : ys.length = T.length := by rw [← hys, List.length_map]
    have e2 : (ys.map fun x => Value.int .i64 x.1) = T.map (Value.int .i64) := by rw [← hys, List.map_map]; rfl
    rw [e1, e2] at hrow
    have HROW := Lib.hid hrow
    have HV := Lib.hid hv
    have HB := Lib.hid hB
    have Q1 := Lib.hid q1
    have Q2 := Lib.hid q2
    obtain ⟨vs, vn, vc, rfl⟩ : ∃ a n c, v = .slice a n c := by
      rcases hrow.2 with ⟨rfl, _⟩ | ⟨g, cap, cur, rfl, _⟩
      · exact ⟨_, _, _, rfl⟩
      · exact ⟨_, _, _, rfl⟩
    clear e1 e2 hys hnz hrow hv hB q1 q2 hbt
    gi_wp2
    have s1 := Q1.out.set (.slice vs vn vc)
    have s2 := (Q2.out.other (B' := w.heap.size + 1) (by omega) (.slice vs vn vc)).set (.bool true)
    have s1b := s1.other (B' := w.heap.size + 1 + 1) (by omega) (.bool true)
    have hn1 := HV.out.not_row (by decide) HROW.out
    have k1 : ((W.setCell ⟨w.heap.size + 1, 0, none⟩ (.slice vs vn vc)).setCell ⟨w.heap.size + 1 + 1, 0, none⟩ (.bool true)).ownsRow w.heap.size 2 1 (.slice vs vn vc) T.length (T.map (Value.int .i64)) :=
      (HROW.out.kept (grownBy_setCell' W _ _) (.inr (Q1.out.not_row (by decide) HROW.out).symm)).kept (grownBy_setCell' _ _ _) (.inr ((Q2.out.not_row (by decide) HROW.out).symm))
    have hBX : Below w.heap.size w ((W.setCell ⟨w.heap.size + 1, 0, none⟩ (.slice vs vn vc)).setCell ⟨w.heap.size + 1 + 1, 0, none⟩ (.bool true)) := (HB.out.setCell (p := ⟨w.heap.size + 1, 0, none⟩) (by show _ ≤ _ + 1; omega) _).setCell (p := ⟨w.heap.size + 1 + 1, 0, none⟩) (by show _ ≤ _ + 1 + 1; omega) _
    have hK2 : ((W.setCell ⟨w.heap.size + 1, 0, none⟩ (.slice vs vn vc)).setCell ⟨w.heap.size + 1 + 1, 0, none⟩ (.bool true)).heap[D]? = some (.deferred (some [])) := (Below.heap_setCell _ _ _ _ (by have := HS0.out; show D ≠ _ + 1 + 1; omega)).trans ((Below.heap_setCell _ _ _ _ (by have := HS0.out; show D ≠ _ + 1; omega)).trans hK)
    obtain ⟨X, hX⟩ : ∃ X, X = (W.setCell ⟨w.heap.size + 1, 0, none⟩ (.slice vs vn vc)).setCell ⟨w.heap.size + 1 + 1, 0, none⟩ (.bool true) := ⟨_, rfl⟩
    rw [← hX] at hK2 s2 s1b k1 hBX ⊢
    have u1 := (s1b.kept (grownBy_putObj' X D (.deferred none)) (by have := HS0.out; simp; omega)).cell
    have u2 := (s2.kept (grownBy_putObj' X D (.deferred none)) (by have := HS0.out; simp; omega)).cell
    refine ⟨by simp, .inl ⟨_, _, rfl, run_takeDeferred hK2, ?_⟩⟩
    refine ⟨.tuple #[.slice vs vn vc, .bool true], by simp [results, Try.results91, go_sem, u1, u2], ?_⟩
    exact ⟨_, by rw [HBT.out], fun _ => rngI_of_owns (ownsRow_putObj k1 _ hK2 rfl), hBX.trans (belowK_b (w := w) (Nat.le_refl _) X D _ _ (by have := HS0.out; omega) hK2 rfl rfl)⟩
  case stop =>
    rintro D pre W hD ⟨⟨hbf, q1, q2⟩, hB⟩ hK
    have HBF := Lib.hid hbf
    have Q1 := Lib.hid q1
    have Q2 := Lib.hid q2
    have HB := Lib.hid hB
    clear q1 q2 hB hbf
    gi_wp2
    have u1 := (Q1.out.kept (grownBy_putObj' W D (.deferred none)) (by have := HS0.out; simp; omega)).cell
    have u2 := (Q2.out.kept (grownBy_putObj' W D (.deferred none)) (by have := HS0.out; simp; omega)).cell
    refine ⟨by simp, .inl ⟨_, _, rfl, run_takeDeferred hK, ?_⟩⟩
    refine ⟨.tuple #[.slice none 0 0, .bool false], by simp [results, Try.results91, go_sem, u1, u2], ?_⟩
    exact ⟨_, by rw [HBF.out], fun h => by rw [HBF.out] at h; exact Bool.noConfusion h, HB.out.trans (belowK_b (w := w) (Nat.le_refl _) W D _ _ (by have := HS0.out; omega) hK rfl rfl)⟩

/-- The minor of a set. -/
def mnD (M : List (List Int)) (s : Int) : Int := dt (memTo M.length s M.length).length (ent (partL M s s))
theorem mnD_minorF (M : List (List Int)) (s : Int) : mnD M s = minorF ((memTo M.length s M.length).map Fin.val) (ent M) := by
  unfold mnD minorF
  rw [List.length_map]
  refine dt_congr _ _ _ (fun i j hi hj => ?_)
  show ((partL M s s).getD i []).getD j 0 = ent M _ _
  simp [partL, partTo, rowL, hi, hj]
theorem colS_mnD {M : List (List Int)} {s : Int} (hn : M.length ≤ 5) : dt M.length (colS M s) = 0 ↔ mnD M s = 0 := by
  rw [colS_minor hn, ← mnD_minorF]
  rcases sgn_cases (memTo M.length s M.length).length with h | h
  all_goals rw [h]; omega
theorem degAll {M : List (List Int)} {Q : List Int} (hp : isPB M Q = true) : ∀ a b, Bd 20 (ent M a b) := by
  obtain ⟨_, _, _, f4, _⟩ := isPB_facts hp
  exact ent_bdAll (B := fun _ => 20) rfl (fun i hi => (f4 i hi).1) (fun _ => by decide) (fun i j hi hj => by have := ent_bd hp i j hi hj; unfold Bd; omega)

/-- The sum of the signs of the minors of the first k sets. -/
def dgK (M : List (List Int)) (L : List Int) : Nat → Int
  | 0 => 0
  | k + 1 => dgK M L k + sgn (mnD M (L.getD k 0))
theorem sgnD_bd (x : Int) : -1 ≤ sgn x ∧ sgn x ≤ 1 := by unfold sgn; split <;> (try split) <;> omega
theorem dgK_bd (M : List (List Int)) (L : List Int) (k : Nat) : -(k : Int) ≤ dgK M L k ∧ dgK M L k ≤ k := by
  induction k with
  | zero => simp [dgK]
  | succ k ih =>
    have := sgnD_bd (mnD M (L.getD k 0))
    rw [dgK]
    omega
def dgOut (M : List (List Int)) (Q : List Int) : Int × Int :=
  if isPB M Q = true then (if innB M Q = true then (dgK M (feaTo M Q (2 ^ M.length)) (feaTo M Q (2 ^ M.length)).length, 0) else (0, 5)) else (0, 1)
theorem dgOut_no {M : List (List Int)} {Q : List Int} (h : isPB M Q = false) : dgOut M Q = (0, 1) := by unfold dgOut; rw [if_neg (by rw [h]; exact Bool.noConfusion)]
theorem dgOut_out {M : List (List Int)} {Q : List Int} (h : isPB M Q = true) (hi : innB M Q = false) : dgOut M Q = (0, 5) := by unfold dgOut; rw [if_pos h, if_neg (by rw [hi]; exact Bool.noConfusion)]
theorem dgOut_ok {M : List (List Int)} {Q : List Int} (h : isPB M Q = true) (hi : innB M Q = true) : dgOut M Q = (dgK M (feaTo M Q (2 ^ M.length)) (feaTo M Q (2 ^ M.length)).length, 0) := by unfold dgOut; rw [if_pos h, if_pos hi]

theorem list_atD {w : World} {v : Value} {Q : List Int} (h : Ints w v Q) (hn : 1 ≤ Q.length) : ∃ b off c, v = .slice (some ⟨b, off, none⟩) Q.length c ∧ b < w.heap.size ∧ ∀ wr, Below w.heap.size w wr → ∀ i, i < Q.length → wr.cell? ⟨b, off + i, none⟩ = some (.int .i64 (Q.getD i 0)) := by
  obtain ⟨a, c, rfl, _, _, _, hx⟩ := h
  rcases hx with hx | ⟨b, off, rfl, hb, hc⟩
  · rw [hx] at hn; simp at hn
  · exact ⟨b, off, c, rfl, hb, fun wr hw i hi => (hw.cell (p := ⟨b, off + i, none⟩) hb).trans (hc i hi)⟩

set_option maxHeartbeats 1000000 in
theorem deg1_any (b off cM Bs i : Nat) (s : Int) (M : List (List Int)) (w : World) (h0 : w.cell? ⟨Bs, 0, none⟩ = some (.slice (some ⟨b, off, none⟩) M.length cM)) (h1 : PM.Rows w (.slice (some ⟨b, off, none⟩) M.length cM) M)
    (hn5 : M.length ≤ 5) (hrl : ∀ j, j < M.length → (M.getD j []).length = M.length) (hma : ∀ a b, Bd 20 (ent M a b)) (hs0 : 0 ≤ s) (hs1 : s < 2 ^ M.length) :
    Calls Try.prog 93 #[.int .i64 i, .int .i64 s, .pointer (some ⟨Bs, 0, none⟩)] w fun e w' => e = .returned (.int .i64 (sgn (mnD M s))) ∧ Below w.heap.size w w' := by
  have HPA := Lib.hid (partOf_ok b off cM M s s w h1 hn5 hrl hs0 hs1 hs0 hs1)
  have HPD := Lib.hid (fun (v : Value) (w' : World) (hv : PM.Rows w' v (partL M s s)) => partDet v M s s w' hv hn5 hma rfl)
  have HI := Lib.hid (partL_I64 hma s s)
  obtain ⟨D, hD⟩ : ∃ D, D = mnD M s := ⟨_, rfl⟩
  have hD2 : dt (memTo M.length s M.length).length (ent (partL M s s)) = D := hD.symm
  rw [hD2] at HPD
  rw [← hD]
  clear h1 hrl hma hs0 hs1 hD hD2 hn5
  go_enter Try.func93, Try.ntmps93
  go_wp2_with fail
  refine (callsIn_wide.1 HPA.out).mono ?_
  rintro e w1 ⟨v, us, rfl, ho, hb1⟩
  have HD := Lib.hid (HPD.out v w1 (ho.rows.rows' HI.out))
  have HB1 := Lib.hid hb1
  clear ho hb1
  go_wp2_with fail
  refine HD.out.mono ?_
  rintro e w2 ⟨rfl, hb2⟩
  have HB2 := Lib.hid (HB1.out.trans (hb2.mono HB1.out.size))
  clear hb2
  go_wp2_with fail
  refine (compare_any _ _).mono ?_
  rintro e w' ⟨rfl, rfl⟩
  go_wp2_with fail
  go_ret
  exact ⟨rfl, HB2.out⟩
set_option maxHeartbeats 1000000 in
theorem sumBy_deg (v : Value) (L : List Int) (b off cM Bs : Nat) (M : List (List Int)) (w : World) (hv : Ints w v L) (hL : L.length ≤ 32) (hs : ∀ x ∈ L, 0 ≤ x ∧ x < 2 ^ M.length) (hBs : Bs < w.heap.size) (h0 : w.cell? ⟨Bs, 0, none⟩ = some (.slice (some ⟨b, off, none⟩) M.length cM)) (h1 : PM.Rows w (.slice (some ⟨b, off, none⟩) M.length cM) M)
    (hn5 : M.length ≤ 5) (hrl : ∀ j, j < M.length → (M.getD j []).length = M.length) (hma : ∀ a b, Bd 20 (ent M a b)) :
    Calls Try.prog 92 #[v, .func (.func 93) #[] #[.pointer (some ⟨Bs, 0, none⟩)]] w fun e w' => e = .returned (.int .i64 (dgK M L L.length)) ∧ Below w.heap.size w w' := by
  have HD := Lib.hid (fun (w' : World) (hb : Below w.heap.size w w') (i : Nat) (s : Int) (hs : 0 ≤ s ∧ s < 2 ^ M.length) => deg1_any b off cM Bs i s M w' ((hb.cell (p := ⟨Bs, 0, none⟩) hBs).trans h0) (h1.below hb) hn5 hrl hma hs.1 hs.2)
  rcases Nat.eq_zero_or_pos L.length with hz | hpos
  · obtain rfl : L = [] := List.length_eq_zero_iff.1 hz
    obtain ⟨a, c, rfl, _⟩ := hv
    clear h0 h1 hrl hma hs HD hz
    go_enter Try.func92, Try.ntmps92
    go_wp2
    go_rounds 1
    all_goals go_ret
    all_goals exact ⟨rfl, Below.refl _ _⟩
  obtain ⟨b1, o1, c1, rfl, hlt, hcell⟩ := list_atD hv (by omega)
  have HBD := Lib.hid (dgK_bd M L)
  have HC := Lib.hid hcell
  have HS := Lib.hid hs
  clear hv hcell h0 h1 hrl hma hs hlt
  go_enter Try.func92, Try.ntmps92
  go_wp2_with fail
  go_loopw [5, 6, 7, 10] (fun s _ _ i wr => ∃ k : Nat, k ≤ L.length ∧ i = .int .i64 k ∧ s = .int .i64 (dgK M L k) ∧ Below w.heap.size w wr) (fun _ _ _ i _ => L.length - (intOf i).toNat)
  case atStart => exact ⟨0, Nat.zero_le _, rfl, rfl, Below.refl _ _⟩
  case round =>
    obtain ⟨k, hk, rfl, rfl, hB⟩ := hrel
    by_cases hlt : k < L.length
    · have c1 := HC.out wr hB k hlt
      have hb1 := HBD.out k
      have hb2 := HBD.out (k + 1)
      have HK := Lib.hid (HD.out wr hB k (L.getD k 0) (HS.out _ (by simp [hlt])))
      have he : Hid (dgK M L (k + 1) = dgK M L k + sgn (mnD M (L.getD k 0))) := rfl
      rw [he.out] at hb2
      have HB := Lib.hid hB
      clear hB
      generalize dgK M L k = S at *
      generalize sgn (mnD M (L.getD k 0)) = z at *
      generalize L.getD k 0 = y at *
      go_wp2_with fail
      refine HK.out.mono ?_; rintro e w' ⟨rfl, hbw⟩
      have HB2 := Lib.hid (HB.out.trans (hbw.mono HB.out.size))
      clear hbw
      go_wp2_with fail
      go_roundw
      case rel => exact ⟨k + 1, by omega, by go_num, by rw [he.out], HB2.out⟩
      case measure => simp [intOf]; omega
    · obtain rfl : k = L.length := by omega
      have HB := Lib.hid hB
      clear hB
      go_wp2_with fail
      go_ret
      exact ⟨rfl, HB.out⟩

set_option maxHeartbeats 1000000 in
theorem implDegreeAt_any (m q : Value) (M : List (List Int)) (Q : List Int) (w : World) (h1 : PM.Rows w m M) (h2 : Ints w q Q) :
    Calls Try.prog 52 #[.agg #[m, q]] w (OutN w (dgOut M Q)) := by
  have g1 := fun (w' : World) (h : Below w.heap.size w w') => h1.below h
  have g2 := fun (w' : World) (h : Below w.heap.size w w') => h2.below h
  cases hp : isPB M Q
  · obtain ⟨a1, c1, rfl, _⟩ := h1
    obtain ⟨a2, c2, rfl, _⟩ := h2
    rw [dgOut_no hp]
    have HP := Lib.hid hp
    clear hp
    go_enter Try.func52, Try.ntmps52
    go_wp2_with fail
    refine (implIsProblem_any _ _ M Q _ (g1 _ (by (repeat' (first | (with_reducible exact Below.refl _ _) | (with_reducible assumption) | (with_reducible refine Below.alloc ?_ ?_ _) | (with_reducible refine Below.drew ?_) | (with_reducible refine below_drewN ?_ _) | (with_reducible refine Below.setCell ?_ ?_ _) | (with_reducible refine Below.trans ?_ (Below.mono (by with_reducible assumption) ?_)) | (with_reducible exact Below.size (by with_reducible assumption)) | go_size)))) (g2 _ (by (repeat' (first | (with_reducible exact Below.refl _ _) | (with_reducible assumption) | (with_reducible refine Below.alloc ?_ ?_ _) | (with_reducible refine Below.drew ?_) | (with_reducible refine below_drewN ?_ _) | (with_reducible refine Below.setCell ?_ ?_ _) | (with_reducible refine Below.trans ?_ (Below.mono (by with_reducible assumption) ?_)) | (with_reducible exact Below.size (by with_reducible assumption)) | go_size))))).mono ?_; rw [HP.out]; rintro e w1 ⟨rfl, hb1⟩; obtain ⟨hc_hb1, hf_hb1⟩ := bcell hb1; obtain ⟨hcA_hb1, hfA_hb1⟩ := bcellG (W0 := w) hb1 (by (repeat' (first | (with_reducible exact Below.refl _ _) | (with_reducible assumption) | (with_reducible refine Below.alloc ?_ ?_ _) | (with_reducible refine Below.drew ?_) | (with_reducible refine below_drewN ?_ _) | (with_reducible refine Below.setCell ?_ ?_ _) | (with_reducible refine Below.trans ?_ (Below.mono (by with_reducible assumption) ?_)) | (with_reducible exact Below.size (by with_reducible assumption)) | go_size))); have hz_hb1 := hb1.size; (try simp at hz_hb1); (try simp only [Nat.add_one_le_iff] at hz_hb1); have hz0_hb1 : w.heap.size < w1.heap.size := (by omega)
    go_wp2_with fail
    go_ret2
    exact ⟨rfl, by (repeat' (first | (with_reducible exact Below.refl _ _) | (with_reducible assumption) | (with_reducible refine Below.alloc ?_ ?_ _) | (with_reducible refine Below.drew ?_) | (with_reducible refine below_drewN ?_ _) | (with_reducible refine Below.setCell ?_ ?_ _) | (with_reducible refine Below.trans ?_ (Below.mono (by with_reducible assumption) ?_)) | (with_reducible exact Below.size (by with_reducible assumption)) | go_size))⟩
  · have HP := Lib.hid hp
    obtain ⟨f1, f2, hql, f4, _⟩ := isPB_facts hp
    have hrl : ∀ j, j < M.length → (M.getD j []).length = M.length := fun j hj => (f4 j hj).1
    obtain ⟨a1, c1, rfl, _, _, hx⟩ := h1
    obtain ⟨b, off, rfl⟩ : ∃ b off, a1 = some ⟨b, off, none⟩ := by
      rcases hx with hx | ⟨b, off, rfl, _⟩
      · rw [hx] at f1; simp at f1
      · exact ⟨b, off, rfl⟩
    obtain ⟨a2, c2, rfl, _⟩ := h2
    rw [hql] at g2 ⊢
    have HIL := Lib.hid (fun (w' : World) (hb : Below w.heap.size w w') => innerList_in (some ⟨b, off, none⟩) a2 c1 c2 M.length M Q w' hp rfl (g1 w' hb) (g2 w' hb))
    have HSB := Lib.hid (fun (v : Value) (Bs : Nat) (w' : World) hv hB h0 (hb : Below w.heap.size w w') => sumBy_deg v (feaTo M Q (2 ^ M.length)) b off c1 Bs M w' hv (Nat.le_trans (feaTo_length M Q _) (Nat.pow_le_pow_right (show 0 < 2 by omega) f2)) (fun x hx => by have := feaTo_mem M Q _ x hx; rw [Int.natCast_pow] at this; exact this) hB h0 (g1 w' hb) f2 hrl (degAll hp))
    have HFI := Lib.hid (fine_fs M Q)
    rw [fsOut_ok hp] at HFI
    have x0 : ∀ w1 : World, Below (w.alloc (.cells #[.slice (some ⟨b, off, none⟩) M.length c1, .slice a2 M.length c2] 27)).heap.size (w.alloc (.cells #[.slice (some ⟨b, off, none⟩) M.length c1, .slice a2 M.length c2] 27)) w1 → w1.cell? ⟨w.heap.size, 0, none⟩ = some (.slice (some ⟨b, off, none⟩) M.length c1) := fun w1 hb => (hb.cell (p := ⟨w.heap.size, 0, none⟩) (by simp)).trans (by simp)
    have X0 := Lib.hid x0
    cases hi : innB M Q
    · rw [dgOut_out hp hi]
      rw [hi] at HIL
      clear hp hi hql f4 hrl hx f1 f2 x0
      go_enter Try.func52, Try.ntmps52
      go_wp2_with fail
      refine (implIsProblem_any _ _ M Q _ (g1 _ (by (repeat' (first | (with_reducible exact Below.refl _ _) | (with_reducible assumption) | (with_reducible refine Below.alloc ?_ ?_ _) | (with_reducible refine Below.drew ?_) | (with_reducible refine below_drewN ?_ _) | (with_reducible refine Below.setCell ?_ ?_ _) | (with_reducible refine Below.trans ?_ (Below.mono (by with_reducible assumption) ?_)) | (with_reducible exact Below.size (by with_reducible assumption)) | go_size)))) (g2 _ (by (repeat' (first | (with_reducible exact Below.refl _ _) | (with_reducible assumption) | (with_reducible refine Below.alloc ?_ ?_ _) | (with_reducible refine Below.drew ?_) | (with_reducible refine below_drewN ?_ _) | (with_reducible refine Below.setCell ?_ ?_ _) | (with_reducible refine Below.trans ?_ (Below.mono (by with_reducible assumption) ?_)) | (with_reducible exact Below.size (by with_reducible assumption)) | go_size))))).mono ?_; rw [HP.out]; rintro e w1 ⟨rfl, hb1⟩; obtain ⟨hc_hb1, hf_hb1⟩ := bcell hb1; obtain ⟨hcA_hb1, hfA_hb1⟩ := bcellG (W0 := w) hb1 (by (repeat' (first | (with_reducible exact Below.refl _ _) | (with_reducible assumption) | (with_reducible refine Below.alloc ?_ ?_ _) | (with_reducible refine Below.drew ?_) | (with_reducible refine below_drewN ?_ _) | (with_reducible refine Below.setCell ?_ ?_ _) | (with_reducible refine Below.trans ?_ (Below.mono (by with_reducible assumption) ?_)) | (with_reducible exact Below.size (by with_reducible assumption)) | go_size))); have hz_hb1 := hb1.size; (try simp at hz_hb1); (try simp only [Nat.add_one_le_iff] at hz_hb1); have hz0_hb1 : w.heap.size < w1.heap.size := (by omega)
      have hw1 : Below w.heap.size w w1 := by (repeat' (first | (with_reducible exact Below.refl _ _) | (with_reducible assumption) | (with_reducible refine Below.alloc ?_ ?_ _) | (with_reducible refine Below.drew ?_) | (with_reducible refine below_drewN ?_ _) | (with_reducible refine Below.setCell ?_ ?_ _) | (with_reducible refine Below.trans ?_ (Below.mono (by with_reducible assumption) ?_)) | (with_reducible exact Below.size (by with_reducible assumption)) | go_size))
      go_wp2_with fail
      refine (callsIn_wide.1 (HIL.out _ hw1)).mono ?_
      rintro e w2 ⟨v, rfl, _, hb2⟩
      have HW2 := Lib.hid (hw1.trans (hb2.mono hw1.size))
      clear hb2
      go_wp2_with fail
      go_ret2
      exact ⟨rfl, HW2.out⟩
    · rw [dgOut_ok hp hi]
      rw [hi] at HIL
      obtain ⟨F, hF⟩ : ∃ F, F = feaTo M Q (2 ^ M.length) := ⟨_, rfl⟩
      rw [← hF] at HIL HSB HFI ⊢
      clear hp hi hql f4 hrl hx f1 f2 hF x0
      go_enter Try.func52, Try.ntmps52
      go_wp2_with fail
      refine (implIsProblem_any _ _ M Q _ (g1 _ (by (repeat' (first | (with_reducible exact Below.refl _ _) | (with_reducible assumption) | (with_reducible refine Below.alloc ?_ ?_ _) | (with_reducible refine Below.drew ?_) | (with_reducible refine below_drewN ?_ _) | (with_reducible refine Below.setCell ?_ ?_ _) | (with_reducible refine Below.trans ?_ (Below.mono (by with_reducible assumption) ?_)) | (with_reducible exact Below.size (by with_reducible assumption)) | go_size)))) (g2 _ (by (repeat' (first | (with_reducible exact Below.refl _ _) | (with_reducible assumption) | (with_reducible refine Below.alloc ?_ ?_ _) | (with_reducible refine Below.drew ?_) | (with_reducible refine below_drewN ?_ _) | (with_reducible refine Below.setCell ?_ ?_ _) | (with_reducible refine Below.trans ?_ (Below.mono (by with_reducible assumption) ?_)) | (with_reducible exact Below.size (by with_reducible assumption)) | go_size))))).mono ?_; rw [HP.out]; rintro e w1 ⟨rfl, hb1⟩; obtain ⟨hc_hb1, hf_hb1⟩ := bcell hb1; obtain ⟨hcA_hb1, hfA_hb1⟩ := bcellG (W0 := w) hb1 (by (repeat' (first | (with_reducible exact Below.refl _ _) | (with_reducible assumption) | (with_reducible refine Below.alloc ?_ ?_ _) | (with_reducible refine Below.drew ?_) | (with_reducible refine below_drewN ?_ _) | (with_reducible refine Below.setCell ?_ ?_ _) | (with_reducible refine Below.trans ?_ (Below.mono (by with_reducible assumption) ?_)) | (with_reducible exact Below.size (by with_reducible assumption)) | go_size))); have hz_hb1 := hb1.size; (try simp at hz_hb1); (try simp only [Nat.add_one_le_iff] at hz_hb1); have hz0_hb1 : w.heap.size < w1.heap.size := (by omega)
      have hw1 : Below w.heap.size w w1 := by (repeat' (first | (with_reducible exact Below.refl _ _) | (with_reducible assumption) | (with_reducible refine Below.alloc ?_ ?_ _) | (with_reducible refine Below.drew ?_) | (with_reducible refine below_drewN ?_ _) | (with_reducible refine Below.setCell ?_ ?_ _) | (with_reducible refine Below.trans ?_ (Below.mono (by with_reducible assumption) ?_)) | (with_reducible exact Below.size (by with_reducible assumption)) | go_size))
      have hx1 := X0.out w1 hb1
      go_wp2_with fail
      refine (callsIn_wide.1 (HIL.out _ hw1)).mono ?_
      rintro e w2 ⟨v, rfl, hr, hb2⟩
      have hx2 := (hb2.cell (p := ⟨w.heap.size, 0, none⟩) (by have := hb1.size; simp at this; show w.heap.size < _; omega)).trans hx1
      have hw2 := hw1.trans (hb2.mono hw1.size)
      have hsz : w.heap.size < w2.heap.size := by have := hb1.size; have := hb2.size; simp at *; omega
      have HSM := Lib.hid (HSB.out v w.heap.size w2 ((hr trivial).own.ints HFI.out.m64) hsz hx2 hw2)
      have HW2 := Lib.hid hw2
      clear hb2 hr hx1 hx2 hw2
      go_wp2_with fail
      refine HSM.out.mono ?_
      rintro e w3 ⟨rfl, hb3⟩
      have HW3 := Lib.hid (HW2.out.trans (hb3.mono HW2.out.size))
      clear hb3
      go_wp2_with fail
      go_ret2
      exact ⟨rfl, HW3.out⟩
end Go.Proofs.Ytoifpjmhikgjgaa.PW
