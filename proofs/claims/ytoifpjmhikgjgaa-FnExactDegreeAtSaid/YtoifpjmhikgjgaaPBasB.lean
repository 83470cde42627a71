/-
  The list of the basic sets: both sides' answers, and the exact law of BasicSets.
-/
import Derived.Test.YtoifpjmhikgjgaaPBasA
namespace Go.Proofs.Ytoifpjmhikgjgaa.PW
open Go.RowKit Go.Shelf Go.Proofs.Ytoifpjmhikgjgaa
open Go.Proofs.Ytoifpjmhikgjgaa.PM Go.Proofs.Ytoifpjmhikgjgaa.PX
attribute [local go_sem] Oper.semAt_some

theorem rngI_of_owns {B : Nat} {W : World} {v : Value} {xs : List Int} (h : W.ownsRow B 2 1 v xs.length (xs.map (Value.int .i64))) : RngI B W.heap.size W v xs := by
  refine ⟨own_base' h, fun b hb => ?_⟩
  rcases h.2 with ⟨rfl, _⟩ | ⟨g, cap, cur, rfl, hg, hgb, _⟩
  · simp [Value.ownBlock] at hb
  · have : g = b := by simpa [Value.ownBlock] using hb
    subst this
    exact ⟨hg, (Array.getElem?_eq_some_iff.1 hgb).1⟩

set_option maxRecDepth 100000 in
set_option maxHeartbeats 2000000 in
theorem setsOf_in (a1 a2 : Option Addr) (c1 c2 : Nat) (M : List (List Int)) (Q : List Int) (Bs : Nat) (w : World) (hp : isPB M Q = true)
    (hrm : PM.Rows w (.slice a1 M.length c1) M) (hrq : Ints w (.slice a2 M.length c2) Q) (hbx : Bs < w.heap.size) (hc0 : w.cell? ⟨Bs, 0, none⟩ = some (.slice a1 M.length c1)) (hc1 : w.cell? ⟨Bs, 1, none⟩ = some (.slice a2 M.length c2)) :
    CallsIn Fence.wide 8 Try.prog 75 #[.func (.func 108) #[] #[.pointer (some ⟨Bs, 0, none⟩)]] w fun e w' => ∃ v, e = .returned v ∧ RngI w.heap.size w'.heap.size w' v (basTo M (2 ^ M.length)) ∧ Below w.heap.size w w' := by
  obtain ⟨f1, f2, _, _, _⟩ := isPB_facts hp
  have hst : SeqStopsK Fence.wide 7 Try.prog 108 #[.pointer (some ⟨Bs, 0, none⟩)] (fun x : Int × Value => #[.int .i64 (Prod.fst x), Prod.snd x]) (Below w.heap.size) (fun ys => ys.map Prod.fst = basTo M (2 ^ M.length)) (fun _ => True) 32 w :=
    fun l J Jx W hW hJ _ hY h0 => basic1_in a1 a2 c1 c2 M.length (2 ^ M.length) M Q l Bs 32 J Jx w W f1 f2 rfl (pt_bas hp) hrm hrq hbx hc0 hc1 hW hJ (Nat.le_refl _) (fun pre x W1 h _ hl => hY pre x W1 h hl) h0
  obtain ⟨T, hT⟩ : ∃ T, T = basTo M (2 ^ M.length) := ⟨_, rfl⟩
  rw [← hT] at hst ⊢
  have HST := Lib.hid hst
  clear hst hT hp hrm hrq hc0 hc1 f1 f2
  obtain ⟨i0, hi, hz0, hz1, hz2⟩ := info_parts info_int
  refine callsIn_of_wp_marks Try.func75 rfl trivial ?_ rfl
  simp only [Try.ntmps75, List.size_toArray, List.length_cons, List.length_nil, Nat.reduceAdd, Nat.reduceSub, Array.replicate_succ, Array.replicate_zero, List.push_toArray, List.append_toArray, List.nil_append, List.cons_append]
  gi_wp2_with fail
  have bO := Boxed.new w 23 (.slice none 0 0)
  refine wpIn_rangeFunc_ownF (α := Int × Value) rfl (by omega) (gf := 108) (lb := #[.pointer (some ⟨Bs, 0, none⟩)]) rfl trivial (enters_of Try.func108 (by kernel_rfl) rfl)
    HST.out belowK_t (belowK_b (by simp)) ((Below.refl _ w).alloc (Nat.le_refl _) _) (fun _ => rfl)
    (fun (pre : List (Int × Value)) W => (∃ v, Boxed W w.heap.size 23 v ∧ W.ownsRow w.heap.size 2 1 v pre.length (pre.map fun x => Value.int .i64 x.1) ∧ True) ∧ Below w.heap.size w W)
    (fun _ _ _ => False)
    (OwnFrom.and (Own.from (holdsRow_own w.heap.size w.heap.size 23 2 1 (fun (pre : List (Int × Value)) => pre.length) (fun (pre : List (Int × Value)) => pre.map fun x => Value.int .i64 x.1) (fun _ _ => True)) _) (ownFrom_below (Nat.le_refl _) (by simp)))
    (fun _ _ _ _ _ hs _ _ => hs)
    ⟨⟨_, bO, World.ownsRow_nil _ _ _ _, trivial⟩, (Below.refl _ w).alloc (Nat.le_refl _) _⟩
    ?a1 ?assign ?body ?done ?stop
  case assign =>
    intro l x W K hK
    gi_wp2
    exact hK
  case body =>
    rintro l pre ⟨x, y⟩ W ⟨⟨v, hv, hrow, _⟩, hB⟩ hlt
    have hc := hv.cell
    gi_wp2_with (gi_at_builtin; refine wpListIn_append_own _ rfl _ _ 23 rfl w.heap.size 2 i0 (.int .i64 0) 1 8 Try.underlying23 hi hz0 hz1 hz2 rfl (by decide) _ _ _ rfl (hrow.alloc _) ⟨W.heap.size, 0, none⟩ 1 1 [.int .i64 x] rfl rfl (cell_one_new _ _ _) (by simp [Value.oneCell']) (by unfold maxLen; omega) (by omega) (by have := hB.size; simp; omega) ?_; intro v' w1 hown' hgrow _; obtain ⟨g', cap', rfl⟩ := ownsRow_succ hown'; obtain ⟨hv1, hv2, hr2, hk2, hb2⟩ := hv.appended (by decide) hrow hB.size (Nat.le_refl _) hown' hgrow; have hc1 := hv1.cell; have hf1 := hv1.frozen)
    have e1 : (pre ++ [(x, y)]).length = pre.length + 1 := by simp
    have e2 : ((pre ++ [(x, y)]).map fun x => Value.int .i64 x.1) = (pre.map fun x => Value.int .i64 x.1) ++ [Value.int .i64 x] := by rw [List.map_append]; rfl
    refine ⟨hk2, hb2, ⟨_, hv2, ?_⟩, hB.trans hb2⟩
    rw [e1, e2]
    exact hr2
  case done =>
    rintro D ys W hD hys ⟨⟨v, hv, hrow, _⟩, hB⟩ hK
    have hc := hv.cell
    have e1 : ys.length = T.length := by rw [← hys, List.length_map]
    have e2 : (ys.map fun x => Value.int .i64 x.1) = T.map (Value.int .i64) := by rw [← hys, List.map_map]; rfl
    rw [e1, e2] at hrow
    clear e1 e2 hys
    gi_wp2
    refine ⟨by simp, .inl ⟨_, _, rfl, run_takeDeferred hK, ?_⟩⟩
    exact ⟨_, results_tmp rfl _ _ _, v, rfl, rngI_of_owns (ownsRow_putObj hrow _ hK rfl), hB.trans (belowK_b (w := w) (Nat.le_refl _) W D _ _ (by simp at hD; omega) hK rfl rfl)⟩
  case stop =>
    rintro D c pre W _ _ h _
    exact h.elim

def bsOut (M : List (List Int)) (Q : List Int) : List Int × Int := if isPB M Q = true then (basTo M (2 ^ M.length), 0) else ([], 1)
theorem bsOut_ok {M : List (List Int)} {Q : List Int} (h : isPB M Q = true) : bsOut M Q = (basTo M (2 ^ M.length), 0) := by unfold bsOut; rw [if_pos h]
theorem bsOut_no {M : List (List Int)} {Q : List Int} (h : isPB M Q = false) : bsOut M Q = ([], 1) := by unfold bsOut; rw [if_neg (by rw [h]; exact Bool.noConfusion)]
theorem fine_bs (M : List (List Int)) (Q : List Int) : FineI (bsOut M Q).1 := by
  cases h : isPB M Q
  · rw [bsOut_no h]; exact fineI_nil
  · rw [bsOut_ok h]
    have hl := basTo_length M (2 ^ M.length)
    have h5 := Nat.pow_le_pow_right (show 0 < 2 by omega) (isPB_facts h).2.1
    refine ⟨fun x hx => ?_, ?_⟩
    · have := basTo_mem M _ x hx
      unfold I64
      omega
    · show (basTo M (2 ^ M.length)).length ≤ _
      omega

set_option maxHeartbeats 1000000 in
theorem implBasicSets_any (m q : Value) (M : List (List Int)) (Q : List Int) (w : World) (h1 : PM.Rows w m M) (h2 : Ints w q Q) :
    Calls Try.prog 35 #[.agg #[m, q]] w (OutI w (bsOut M Q)) := by
  have g1 := fun (w' : World) (h : Below w.heap.size w w') => h1.below h
  have g2 := fun (w' : World) (h : Below w.heap.size w w') => h2.below h
  obtain ⟨a1, c1, rfl, _⟩ := h1
  obtain ⟨a2, c2, rfl, _⟩ := h2
  cases hp : isPB M Q
  · rw [bsOut_no hp]
    have HP := Lib.hid hp
    clear hp
    go_enter Try.func35, Try.ntmps35
    go_wp2_with fail
    refine (implIsProblem_any _ _ M Q _ (g1 _ (by (repeat' (first | (with_reducible exact Below.refl _ _) | (with_reducible assumption) | (with_reducible refine Below.alloc ?_ ?_ _) | (with_reducible refine Below.drew ?_) | (with_reducible refine below_drewN ?_ _) | (with_reducible refine Below.setCell ?_ ?_ _) | (with_reducible refine Below.trans ?_ (Below.mono (by with_reducible assumption) ?_)) | (with_reducible exact Below.size (by with_reducible assumption)) | go_size)))) (g2 _ (by (repeat' (first | (with_reducible exact Below.refl _ _) | (with_reducible assumption) | (with_reducible refine Below.alloc ?_ ?_ _) | (with_reducible refine Below.drew ?_) | (with_reducible refine below_drewN ?_ _) | (with_reducible refine Below.setCell ?_ ?_ _) | (with_reducible refine Below.trans ?_ (Below.mono (by with_reducible assumption) ?_)) | (with_reducible exact Below.size (by with_reducible assumption)) | go_size))))).mono ?_; rw [HP.out]; rintro e w1 ⟨rfl, hb1⟩; obtain ⟨hc_hb1, hf_hb1⟩ := bcell hb1; obtain ⟨hcA_hb1, hfA_hb1⟩ := bcellG (W0 := w) hb1 (by (repeat' (first | (with_reducible exact Below.refl _ _) | (with_reducible assumption) | (with_reducible refine Below.alloc ?_ ?_ _) | (with_reducible refine Below.drew ?_) | (with_reducible refine below_drewN ?_ _) | (with_reducible refine Below.setCell ?_ ?_ _) | (with_reducible refine Below.trans ?_ (Below.mono (by with_reducible assumption) ?_)) | (with_reducible exact Below.size (by with_reducible assumption)) | go_size))); have hz_hb1 := hb1.size; (try simp at hz_hb1); (try simp only [Nat.add_one_le_iff] at hz_hb1); have hz0_hb1 : w.heap.size < w1.heap.size := (by omega)
    go_wp2_with fail
    go_ret2
    exact outI_nil (by (repeat' (first | (with_reducible exact Below.refl _ _) | (with_reducible assumption) | (with_reducible refine Below.alloc ?_ ?_ _) | (with_reducible refine Below.drew ?_) | (with_reducible refine below_drewN ?_ _) | (with_reducible refine Below.setCell ?_ ?_ _) | (with_reducible refine Below.trans ?_ (Below.mono (by with_reducible assumption) ?_)) | (with_reducible exact Below.size (by with_reducible assumption)) | go_size)))
  · rw [bsOut_ok hp]
    have HP := Lib.hid hp
    have hql := (isPB_facts hp).2.2.1
    rw [hql] at g2 ⊢
    clear hp hql
    go_enter Try.func35, Try.ntmps35
    go_wp2_with fail
    refine (implIsProblem_any _ _ M Q _ (g1 _ (by (repeat' (first | (with_reducible exact Below.refl _ _) | (with_reducible assumption) | (with_reducible refine Below.alloc ?_ ?_ _) | (with_reducible refine Below.drew ?_) | (with_reducible refine below_drewN ?_ _) | (with_reducible refine Below.setCell ?_ ?_ _) | (with_reducible refine Below.trans ?_ (Below.mono (by with_reducible assumption) ?_)) | (with_reducible exact Below.size (by with_reducible assumption)) | go_size)))) (g2 _ (by (repeat' (first | (with_reducible exact Below.refl _ _) | (with_reducible assumption) | (with_reducible refine Below.alloc ?_ ?_ _) | (with_reducible refine Below.drew ?_) | (with_reducible refine below_drewN ?_ _) | (with_reducible refine Below.setCell ?_ ?_ _) | (with_reducible refine Below.trans ?_ (Below.mono (by with_reducible assumption) ?_)) | (with_reducible exact Below.size (by with_reducible assumption)) | go_size))))).mono ?_; rw [HP.out]; rintro e w1 ⟨rfl, hb1⟩; obtain ⟨hc_hb1, hf_hb1⟩ := bcell hb1; obtain ⟨hcA_hb1, hfA_hb1⟩ := bcellG (W0 := w) hb1 (by (repeat' (first | (with_reducible exact Below.refl _ _) | (with_reducible assumption) | (with_reducible refine Below.alloc ?_ ?_ _) | (with_reducible refine Below.drew ?_) | (with_reducible refine below_drewN ?_ _) | (with_reducible refine Below.setCell ?_ ?_ _) | (with_reducible refine Below.trans ?_ (Below.mono (by with_reducible assumption) ?_)) | (with_reducible exact Below.size (by with_reducible assumption)) | go_size))); have hz_hb1 := hb1.size; (try simp at hz_hb1); (try simp only [Nat.add_one_le_iff] at hz_hb1); have hz0_hb1 : w.heap.size < w1.heap.size := (by omega)
    have hw1 : Below w.heap.size w w1 := by (repeat' (first | (with_reducible exact Below.refl _ _) | (with_reducible assumption) | (with_reducible refine Below.alloc ?_ ?_ _) | (with_reducible refine Below.drew ?_) | (with_reducible refine below_drewN ?_ _) | (with_reducible refine Below.setCell ?_ ?_ _) | (with_reducible refine Below.trans ?_ (Below.mono (by with_reducible assumption) ?_)) | (with_reducible exact Below.size (by with_reducible assumption)) | go_size))
    go_wp2_with fail
    refine (callsIn_wide.1 (basicPoints_in _ _ _)).mono ?_; rintro e w2 ⟨rfl, rfl⟩
    have hw2 : Below w.heap.size w (w1.alloc (.cells #[.slice a1 M.length c1, .slice a2 M.length c2] 27)) := hw1.alloc hw1.size _
    have hso := setsOf_in a1 a2 c1 c2 M Q w1.heap.size _ HP.out (g1 _ hw2) (g2 _ hw2) (by simp) (by simp) (by simp)
    have HSO := Lib.hid hso
    have HW2 := Lib.hid hw2
    clear hso hw2
    go_wp2_with fail
    refine (callsIn_wide.1 HSO.out).mono ?_
    rintro e w3 ⟨v, rfl, hr, hb3⟩
    have hw3 := HW2.out.trans (hb3.mono HW2.out.size)
    have HR := Lib.hid hr
    have HZ := Lib.hid HW2.out.size
    clear hr
    go_wp2_with fail
    go_ret2
    exact ⟨_, rfl, ⟨HR.out.own, fun b hb => ⟨Nat.le_trans HZ.out (HR.out.at_ b hb).1, (HR.out.at_ b hb).2⟩⟩, hw3⟩
end Go.Proofs.Ytoifpjmhikgjgaa.PW
