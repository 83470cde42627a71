/-
  Rows one after the other from the last one on (slices.Backward), in the program; the demands of a program as a linked list.
-/
import Derived.Test.YtoglmkjmnknbbaaPNest
import Derived.Test.YtoglmkjmnknbbaaWIs
namespace Go.Proofs.Ytoglmkjmnknbbaa.PW
open Go.RowKit Go.Shelf Go.Proofs.Ytoglmkjmnknbbaa
open Go.Proofs.Ytoglmkjmnknbbaa.PM
attribute [local go_sem] Oper.semAt_some

/-- The first j of n indices, from the last one on. -/
def dnL (n : Nat) : Nat → List Nat
  | 0 => []
  | j + 1 => dnL n j ++ [n - 1 - j]
theorem dnL_length (n j : Nat) : (dnL n j).length = j := by
  induction j with
  | zero => rfl
  | succ j ih => simp [dnL, ih]
theorem dnL_rev (n j : Nat) (h : j ≤ n) : (dnL n j).reverse = List.range' (n - j) j := by
  induction j with
  | zero => rfl
  | succ j ih =>
    rw [dnL, List.reverse_append, ih (by omega)]
    show (n - 1 - j) :: List.range' (n - j) j = _
    rw [List.range'_succ]
    rw [show n - (j + 1) = n - 1 - j by omega, show n - 1 - j + 1 = n - j by omega]
theorem dnL_all (n : Nat) : (dnL n n).reverse = List.range n := by
  rw [dnL_rev n n (Nat.le_refl _), Nat.sub_self]
  exact (List.range_eq_range' (n := n)).symm

theorem backward_in (a : Option Addr) (n c : Nat) (w : World) :
    CallsIn Fence.wide 7 Try.prog 135 #[.slice a n c] w fun e w' => e = .returned (.func (.func 142) #[] #[.pointer (some ⟨w.heap.size, 0, none⟩)]) ∧ w' = w.alloc (.cells #[.slice a n c] 22) := by
  refine callsIn_of_wp Try.func135 rfl trivial ?_ rfl
  simp only [Try.ntmps135, List.size_toArray, List.length_cons, List.length_nil, Nat.reduceAdd, Nat.reduceSub, Array.replicate_succ, Array.replicate_zero, List.push_toArray, List.append_toArray, List.nil_append, List.cons_append]
  gi_wp2
  go_ret
  exact ⟨rfl, rfl⟩

set_option maxRecDepth 100000 in
set_option maxHeartbeats 2000000 in
theorem back1_nests (b off c n Bs N lo : Nat) (U : Nat → Value) (T' : TypeId → Prop) (w0 w : World) (hb : b < w0.heap.size) (hU : ∀ i, i < n → w0.cell? ⟨b, off + i, none⟩ = some (U i)) (hU2 : ∀ i, i < n → ∃ a k cc, U i = .slice a k cc)
    (hlo : w0.heap.size ≤ lo) (hbw : Below w0.heap.size w0 w) (hc : w.heap[Bs]? = some (.cells #[.slice (some ⟨b, off, none⟩) n c] 22 (0, 0))) (hTP : ¬ T' 22) (hn : n ≤ 5) (hN : n ≤ N) :
    PR.Nests Fence.wide 7 Try.prog 142 #[.pointer (some ⟨Bs, 0, none⟩)] (fun k : Nat => #[.int .i64 (k : Int), U k]) T' lo (fun k _ => k < n) (fun xs => xs = dnL n n) N w := by
  intro l J Jx W hW hJ hJx hY h0
  show CallsIn Fence.wide 7 Try.prog 142 #[.func (.yield l) #[] #[], .pointer (some ⟨Bs, 0, none⟩)] W _
  have hBz : Bs < w.heap.size := (Array.getElem?_eq_some_iff.1 hc).1
  obtain ⟨Li, hLi⟩ : ∃ Li : World → Prop, ∀ A, Li A ↔ Below w0.heap.size w0 A ∧ A.heap[Bs]? = some (.cells #[.slice (some ⟨b, off, none⟩) n c] 22 (0, 0)) := ⟨_, fun _ => Iff.rfl⟩
  have hW1 : Li W := (hLi W).2 ⟨hbw.trans (hW.mono hbw.size), (hW.block _ hBz).trans hc⟩
  have LC0 := Lib.hid (fun (A : World) (h : Li A) => show A.cell? ⟨Bs, 0, none⟩ = some (.slice (some ⟨b, off, none⟩) n c) by simp [World.cell?, ((hLi A).1 h).2])
  have LCU := Lib.hid (fun (A : World) (h : Li A) (i : Nat) (hi : i < n) => (((hLi A).1 h).1.cell (p := ⟨b, off + i, none⟩) hb).trans (hU i hi))
  have LK := Lib.hid (fun (A B : World) (h : Li A) (hk : PR.Kept T' lo W.heap.size A B) => (hLi B).2 ⟨((hLi A).1 h).1.trans (hk.below.mono hlo), hk.typed _ _ _ _ ((hLi A).1 h).2 hTP⟩)
  have HY := Lib.hid hY
  have HU2 := Lib.hid hU2
  have d0 := LC0.out W hW1
  have HW1 := Lib.hid hW1
  clear hW1 hLi hU hU2 hY hc hbw hW hTP hlo hJ hJx
  refine callsIn_of_wp Try.func142 rfl trivial ?_ rfl
  simp only [Try.ntmps142, List.size_toArray, List.length_cons, List.length_nil, Nat.reduceAdd, Nat.reduceSub, Array.replicate_succ, Array.replicate_zero, List.push_toArray, List.append_toArray, List.nil_append, List.cons_append]
  gi_wp2
  gi_loopw [3] (fun i wr => ∃ j : Nat, j ≤ n ∧ i = .int .i64 ((n : Int) - 1 - j) ∧ J (dnL n j) wr ∧ Li wr) (fun i _ => ((intOf i) + 1).toNat)
  case atStart => exact ⟨0, Nat.zero_le _, by go_num, h0, HW1.out⟩
  case round =>
    obtain ⟨j, hj, rfl, hJs, hL⟩ := hrel
    by_cases hlt : j < n
    · have d0 := LC0.out _ hL
      obtain ⟨k, hk⟩ : ∃ k, k = n - 1 - j := ⟨_, rfl⟩
      have dk := LCU.out _ hL k (by omega)
      obtain ⟨ua, un, uc, hu⟩ := HU2.out k (by omega)
      have hki : (n : Int) - 1 - j = (k : Int) := by omega
      have hnx : dnL n (j + 1) = dnL n j ++ [k] := by rw [dnL, hk]
      have HNX := Lib.hid hnx
      obtain ⟨fn, tmps, assign, body, hy, hR⟩ := HY.out (dnL n j) k wr hJs (by omega) (by rw [dnL_length]; omega)
      rw [hu] at dk hy
      rw [hki]
      have HR := Lib.hid hR
      have HL := Lib.hid hL
      have hk0 : (0 : Int) ≤ (k : Int) := by omega
      have hk1 : (k : Int) < (n : Int) := by omega
      have hkn : k < n := by omega
      have HK := Lib.hid hki
      clear hR hL hJs hnx hk hu hki
      gi_wp2
      refine HR.out.mono ?_
      rintro e W3 ⟨⟨rfl, hJ3⟩ | ⟨rfl, hJx3⟩, hk3⟩
      · have HJ3 := Lib.hid hJ3
        have HL3 := Lib.hid (LK.out _ _ HL.out hk3)
        clear hJ3 hk3
        gi_wp2
        go_roundw
        case rel => exact ⟨j + 1, by omega, by have := HK.out; go_num, by rw [HNX.out]; exact HJ3.out, HL3.out⟩
        case measure => have := HK.out; simp [intOf] <;> omega
      · have HJ3 := Lib.hid hJx3
        clear hJx3 hk3
        gi_wp2
        refine bodyPost_ret (results_none rfl _ _ _) rfl ?_
        exact ⟨⟨_, rfl⟩, .inr ⟨_, HJ3.out⟩⟩
    · obtain rfl : j = n := by omega
      have HJS := Lib.hid hJs
      clear hJs hL
      gi_wp2
      go_end0
      exact ⟨⟨_, rfl⟩, .inl ⟨_, rfl, HJS.out⟩⟩

theorem back1_zero (a : Option Addr) (c Bs N lo : Nat) (U : Nat → Value) (T' : TypeId → Prop) (w : World) (hc : w.heap[Bs]? = some (.cells #[.slice a 0 c] 22 (0, 0))) :
    PR.Nests Fence.wide 7 Try.prog 142 #[.pointer (some ⟨Bs, 0, none⟩)] (fun k : Nat => #[.int .i64 (k : Int), U k]) T' lo (fun k _ => k < 0) (fun xs => xs = dnL 0 0) N w := by
  intro l J Jx W hW hJ hJx hY h0
  show CallsIn Fence.wide 7 Try.prog 142 #[.func (.yield l) #[] #[], .pointer (some ⟨Bs, 0, none⟩)] W _
  have hBz : Bs < w.heap.size := (Array.getElem?_eq_some_iff.1 hc).1
  have hc2 := (hW.block _ hBz).trans hc
  have d0 : W.cell? ⟨Bs, 0, none⟩ = some (.slice a 0 c) := by simp [World.cell?, hc2]
  have H0 := Lib.hid h0
  clear hY hc hc2 hW hJ hJx h0
  refine callsIn_of_wp Try.func142 rfl trivial ?_ rfl
  simp only [Try.ntmps142, List.size_toArray, List.length_cons, List.length_nil, Nat.reduceAdd, Nat.reduceSub, Array.replicate_succ, Array.replicate_zero, List.push_toArray, List.append_toArray, List.nil_append, List.cons_append]
  gi_wp2
  gi_loopw [3] (fun i wr => i = .int .i64 (-1) ∧ J (dnL 0 0) wr) (fun i _ => ((intOf i) + 1).toNat)
  case atStart => exact ⟨by go_num, H0.out⟩
  case round =>
    obtain ⟨rfl, hJs⟩ := hrel
    have HJS := Lib.hid hJs
    clear hJs
    gi_wp2
    go_end0
    exact ⟨⟨_, rfl⟩, .inl ⟨_, rfl, HJS.out⟩⟩

/-- Demands that lie one after the other: of the rows ks, the last one ahead of nx. -/
def DemS (U : Nat → Value) (B : List Int) (W : World) : List Nat → Value → Value → Prop
  | [], v, nx => v = nx
  | k :: ks, v, nx => ∃ bl y, v = .pointer (some ⟨bl, 0, none⟩) ∧ W.heap[bl]? = some (.cells #[U k, .int .i64 (B.getD k 0), y] 157 (0, 0)) ∧ DemS U B W ks y nx
theorem DemS.keep {U : Nat → Value} {B : List Int} {W W' : World} (h : ∀ (k : Nat) xs fr, W.heap[k]? = some (.cells xs 157 fr) → W'.heap[k]? = some (.cells xs 157 fr)) :
    ∀ {ks : List Nat} {v nx : Value}, DemS U B W ks v nx → DemS U B W' ks v nx := by
  intro ks
  induction ks with
  | nil => intro v nx hd; exact hd
  | cons k ks ih =>
    rintro v nx ⟨bl, y, rfl, hc, hd⟩
    exact ⟨bl, y, rfl, h _ _ _ hc, ih hd⟩
theorem DemS.ptr {U : Nat → Value} {B : List Int} {W : World} {ks : List Nat} {v nx : Value} (h : DemS U B W ks v nx) (hn : ∃ ad, nx = .pointer ad) : ∃ ad, v = .pointer ad := by
  cases ks with
  | nil => rw [show v = nx from h]; exact hn
  | cons k ks => obtain ⟨bl, y, rfl, _⟩ := h; exact ⟨_, rfl⟩

/-- While a demand is built in the open order of its parts. -/
structure DmR (T' : TypeId → Prop) (lo hi Bn : Nat) (W w' : World) (u v : Value) (bk : Int) (bl : Nat) (b8 b9 : Bool) : Prop where
  a : b8 = false → Below W.heap.size W w'
  b : b8 = true → b9 = false → W.heap.size ≤ bl ∧ w'.heap[bl]? = some (.cells #[u, .int .i64 bk, v] 157 (0, 0)) ∧ Below W.heap.size W w'
  c : b9 = true → w'.heap[bl]? = some (.cells #[u, .int .i64 bk, v] 157 (0, 0)) ∧ Boxed w' Bn 136 (.pointer (some ⟨bl, 0, none⟩)) ∧ PR.Kept T' lo hi W w'
theorem DmR.box_ {T' : TypeId → Prop} {lo hi Bn : Nat} {W w' : World} {u v : Value} {bk : Int} {bl : Nat} (h : DmR T' lo hi Bn W w' u v bk bl false false) : DmR T' lo hi Bn W (w'.alloc (.cells #[u, .int .i64 bk, v] 157)) u v bk w'.heap.size true false :=
  ⟨fun e => Bool.noConfusion e, fun _ _ => ⟨(h.a rfl).size, World.alloc_heap_new w' _, (h.a rfl).alloc (h.a rfl).size _⟩, fun e => Bool.noConfusion e⟩
theorem DmR.bx {T' : TypeId → Prop} {lo hi Bn : Nat} {W w' : World} {u v : Value} {bk : Int} {bl : Nat} (h : DmR T' lo hi Bn W w' u v bk bl true false) (hv : Boxed W Bn 136 v) : Boxed w' Bn 136 v :=
  ((h.b rfl rfl).2.2.block _ hv.lt).trans hv
theorem DmR.store_ {T' : TypeId → Prop} {lo hi Bn : Nat} {W w' : World} {u v : Value} {bk : Int} {bl : Nat} (h : DmR T' lo hi Bn W w' u v bk bl true false) (hv : Boxed W Bn 136 v) (hT : T' 136) (h1 : lo ≤ Bn) (h2 : lo ≤ W.heap.size) :
    DmR T' lo hi Bn W (w'.setCell ⟨Bn, 0, none⟩ (.pointer (some ⟨bl, 0, none⟩))) u v bk bl true true := by
  obtain ⟨g1, g2, g3⟩ := h.b rfl rfl
  have hb := h.bx hv
  refine ⟨fun e => Bool.noConfusion e, fun _ e => Bool.noConfusion e, fun _ => ⟨?_, hb.set _, (PR.Kept.of_below g3 h2).trans (PR.Kept.setBox hb _ hT h1)⟩⟩
  exact (Below.heap_setCell w' ⟨Bn, 0, none⟩ _ bl (by have := hv.lt; show bl ≠ Bn; omega)).trans g2

set_option maxRecDepth 100000 in
set_option maxHeartbeats 4000000 in
theorem demandsOf_in (v0 v1 : Value) (a3 x4 : Option Addr) (cA y4 n : Nat) (U : Nat → Value) (B : List Int) (ad : Option Addr) (w : World) (hU2 : ∀ i, i < n → ∃ a k cc, U i = .slice a k cc) (hn5 : n ≤ 5)
    (hx : n = 0 ∨ ∃ b off, a3 = some ⟨b, off, none⟩ ∧ b < w.heap.size ∧ ∀ i, i < n → w.cell? ⟨b, off + i, none⟩ = some (U i))
    (hB : n = 0 ∨ ∃ b off, x4 = some ⟨b, off, none⟩ ∧ b < w.heap.size ∧ ∀ i, i < n → w.cell? ⟨b, off + i, none⟩ = some (.int .i64 (B.getD i 0))) :
    CallsIn Fence.wide 9 Try.prog 115 #[.agg #[v0, v1, .slice a3 n cA, .slice x4 n y4], .pointer ad] w fun e w' => ∃ v, e = .returned v ∧ DemS U B w' (List.range n) v (.pointer ad) ∧ Below w.heap.size w w' := by
  have hmx : Try.prog.follows .mixedOrders = true := by kernel_rfl
  obtain ⟨T', hT'⟩ : ∃ T' : TypeId → Prop, T' = fun t => t = 136 := ⟨_, rfl⟩
  have hTp : T' 136 := by rw [hT']
  have hTr : ¬ T' 22 := by rw [hT']; decide
  have hTd : ¬ T' 157 := by rw [hT']; decide
  have hTg : ¬ T' 71 := by rw [hT']; decide
  have hst : ∀ (Bs : Nat) (W : World), Below w.heap.size w W → W.heap[Bs]? = some (.cells #[.slice a3 n cA] 22 (0, 0)) →
      PR.Nests Fence.wide 7 Try.prog 142 #[.pointer (some ⟨Bs, 0, none⟩)] (fun k : Nat => #[.int .i64 (k : Int), U k]) T' w.heap.size (fun k _ => k < n) (fun xs => xs = dnL n n) 32 W := fun Bs W hW hc => by
    rcases hx with rfl | ⟨b, off, rfl, hb, hU⟩
    · exact back1_zero a3 cA Bs 32 w.heap.size U T' W hc
    · exact back1_nests b off cA n Bs 32 w.heap.size U T' w W hb hU hU2 (Nat.le_refl _) hW hc hTr hn5 (by omega)
  have HST := Lib.hid hst
  have HU2 := Lib.hid hU2
  have HB := Lib.hid hB
  have HTP := Lib.hid hTp
  have HTD := Lib.hid hTd
  have HTG := Lib.hid hTg
  have hrv := dnL_all n
  have HRV := Lib.hid hrv
  clear hst hU2 hB hx hT' hTp hTr hTd hTg hrv
  refine callsIn_of_wp_marks Try.func115 rfl trivial ?_ rfl
  simp only [Try.ntmps115, List.size_toArray, List.length_cons, List.length_nil, Nat.reduceAdd, Nat.reduceSub, Array.replicate_succ, Array.replicate_zero, List.push_toArray, List.append_toArray, List.nil_append, List.cons_append]
  gi_wp2_with fail
  refine ⟨trivial, ?_⟩
  gi_at_call 135
  refine (callsIn_wide.2 (callsIn_wide.1 (backward_in _ _ _ _))).mono ?_
  rintro e w2 ⟨rfl, rfl⟩
  gi_wp2_with fail
  obtain ⟨V0, hV0⟩ : ∃ V0, ((w.alloc (.cells #[v0, v1, .slice a3 n cA, .slice x4 n y4] 71)).alloc (.cells #[.pointer ad] 136)).alloc (.cells #[.slice a3 n cA] 22) = V0 := ⟨_, rfl⟩
  have r1 : Boxed V0 (w.heap.size + 1) 136 (.pointer ad) := by
    have := (Boxed.new (w.alloc (.cells #[v0, v1, .slice a3 n cA, .slice x4 n y4] 71)) 136 (.pointer ad)).alloc (.cells #[.slice a3 n cA] 22)
    rw [hV0] at this
    simpa using this
  have r0 : V0.heap[w.heap.size]? = some (.cells #[v0, v1, .slice a3 n cA, .slice x4 n y4] 71 (0, 0)) := by
    rw [← hV0]
    exact (Below.heap_alloc _ _ _ (by simp; omega)).trans ((Below.heap_alloc _ _ _ (by simp)).trans (World.alloc_heap_new w _))
  have r2 : V0.heap[w.heap.size + 1 + 1]? = some (.cells #[.slice a3 n cA] 22 (0, 0)) := by
    have := World.alloc_heap_new ((w.alloc (.cells #[v0, v1, .slice a3 n cA, .slice x4 n y4] 71)).alloc (.cells #[.pointer ad] 136)) (.cells #[.slice a3 n cA] 22)
    rw [hV0] at this
    simpa using this
  have hb0 : Below w.heap.size w V0 := by rw [← hV0]; (repeat' (first | (with_reducible exact Below.refl _ _) | (with_reducible assumption) | (with_reducible refine Below.alloc ?_ ?_ _) | (with_reducible refine Below.drew ?_) | (with_reducible refine below_drewN ?_ _) | (with_reducible refine Below.setCell ?_ ?_ _) | (with_reducible refine Below.trans ?_ (Below.mono (by with_reducible assumption) ?_)) | (with_reducible exact Below.size (by with_reducible assumption)) | go_size))
  have hs0 : V0.heap.size = w.heap.size + 3 := by rw [← hV0]; simp
  rw [hV0]
  clear hV0
  have HNEST := Lib.hid (HST.out _ _ hb0 r2)
  have HS0 := Lib.hid hs0
  have HLO : Hid (w.heap.size ≤ V0.heap.size) := Lib.hid hb0.size
  clear HST hs0 r2
  refine PR.wpIn_rangeFunc_nests (α := Nat) (T := T') (lo := w.heap.size) rfl (by omega) (gf := 142) (lb := #[.pointer (some ⟨w.heap.size + 1 + 1, 0, none⟩)]) rfl trivial (enters_of Try.func142 (by kernel_rfl) rfl)
    (PR.nests_wide HNEST.out) HLO.out (Below.refl _ _) (fun _ => rfl)
    (fun x W l o o' hl ho h => h)
    (fun (pre : List Nat) W => (∃ v, Boxed W (w.heap.size + 1) 136 v ∧ DemS U B W pre.reverse v (.pointer ad)) ∧ W.heap[w.heap.size]? = some (.cells #[v0, v1, .slice a3 n cA, .slice x4 n y4] 71 (0, 0)) ∧ Below w.heap.size w W)
    (fun _ _ => False)
    (OwnFrom.and (fun s X Y row hs hg hr => by
        have hk := KC.of hg (fun r e => (hr r e).2)
        obtain ⟨v, g1, g2⟩ := hs
        exact ⟨v, hk.same _ _ _ _ g1, g2.keep (fun k xs fr h => hk.same _ _ _ _ h)⟩)
      (OwnFrom.and (fun s X Y row hs hg hr => (KC.of hg (fun r e => (hr r e).2)).same _ _ _ _ hs) (ownFrom_below (Nat.le_refl _) HLO.out)))
    (fun _ _ _ _ h _ _ => h)
    ⟨⟨_, r1, rfl⟩, r0, hb0⟩
    ?a1 ?assign ?body ?done ?stop
  case assign =>
    intro l x W K hK
    gi_wp2
    exact hK
  case body =>
    rintro l pre k W ⟨⟨v, hv, hd⟩, hp, hB⟩ hkn hlt hWz
    obtain ⟨ua, un, uc, hu⟩ := HU2.out k hkn
    obtain ⟨ap, rfl⟩ := hd.ptr ⟨_, rfl⟩
    obtain ⟨bQ, oQ, rfl, hbQ, hc4⟩ : ∃ b off, x4 = some ⟨b, off, none⟩ ∧ b < w.heap.size ∧ ∀ i, i < n → w.cell? ⟨b, off + i, none⟩ = some (.int .i64 (B.getD i 0)) := by
      rcases HB.out with h | h
      · omega
      · exact h
    have ck := (hB.cell (p := ⟨bQ, oQ + k, none⟩) hbQ).trans (hc4 k hkn)
    have hwz : w.heap.size < W.heap.size := (Array.getElem?_eq_some_iff.1 hp).1
    have hvz := hv.lt
    have hbQW : bQ < W.heap.size := by have := hB.size; omega
    have c3 : W.cell? ⟨w.heap.size, 3, none⟩ = some (.slice (some ⟨bQ, oQ, none⟩) n y4) := by simp [World.cell?, hp]
    have cv := hv.cell
    obtain ⟨bk, hbk⟩ : ∃ bk, bk = B.getD k 0 := ⟨_, rfl⟩
    rw [← hbk] at ck
    have hx0 : (0 : Int) ≤ (k : Int) := by omega
    have hx1 : (k : Int) < (n : Int) := by omega
    rw [hu]
    have HV := Lib.hid hv
    have HD := Lib.hid hd
    have HP := Lib.hid hp
    have HBW := Lib.hid hB
    have HU := Lib.hid hu
    have HBK := Lib.hid hbk
    clear hv hd hp hB hu hbk hc4
    gi_wp2
    rename_i hQ
    have idK := fun (a : Act) (w : World) (h : Exit.inBlock 1 hQ .normal a w) => h
    refine PR.wpIn_region_inv hmx (by kernel_rfl) (fun listed ac w' =>
        ∃ (b0 b1 b2 b3 b4 b5 b6 b7 b8 b9 : Bool) (bl : Nat), ((b2 = true → b1 = true) ∧ (b4 = true → b2 = true ∧ b3 = true) ∧ (b5 = true → b4 = true) ∧ (b7 = true → b0 = true ∧ b5 = true ∧ b6 = true) ∧ (b8 = true → b7 = true) ∧ (b9 = true → b8 = true)) ∧ listed = #[b0, b1, b2, b3, b4, b5, b6, b7, b8, b9] ∧
          ac = { tmps := #[.agg #[v0, v1, .slice a3 n cA, .slice (some ⟨bQ, oQ, none⟩) n y4], .pointer ad, .pointer (some ⟨w.heap.size, 0, none⟩), .pointer (some ⟨w.heap.size + 1, 0, none⟩), .pointer none, .int .i64 k, .slice ua un uc, .pointer (some ⟨w.heap.size, 2, none⟩), .slice a3 n cA, .func (.func 142) #[] #[.pointer (some ⟨w.heap.size + 1 + 1, 0, none⟩)], .int .i64 k, .slice ua un uc, cond b0 (.slice ua un uc) undef, cond b1 (.pointer (some ⟨w.heap.size, 3, none⟩)) undef, cond b2 (.slice (some ⟨bQ, oQ, none⟩) n y4) undef, cond b3 (.int .i64 k) undef, cond b4 (.pointer (some ⟨bQ, oQ + k, none⟩)) undef, cond b5 (.int .i64 bk) undef, cond b6 (.pointer ap) undef, cond b7 (.agg #[.slice ua un uc, .int .i64 bk, .pointer ap]) undef, cond b8 (.pointer (some ⟨bl, 0, none⟩)) undef, undef], defers := [] } ∧ DmR T' w.heap.size V0.heap.size (w.heap.size + 1) W w' (.slice ua un uc) (.pointer ap) bk bl b8 b9) ?_ ?_ ?_ ?_
    · rintro listed ac w' ⟨b0, b1, b2, b3, b4, b5, b6, b7, b8, b9, bl, _, rfl, _⟩
      rfl
    · rintro listed ac w' ⟨b0, b1, b2, b3, b4, b5, b6, b7, b8, b9, bl, _, rfl, rfl, hR⟩ hall
      have h0 := hall 0 (by simp)
      have h1 := hall 1 (by simp)
      have h2 := hall 2 (by simp)
      have h3 := hall 3 (by simp)
      have h4 := hall 4 (by simp)
      have h5 := hall 5 (by simp)
      have h6 := hall 6 (by simp)
      have h7 := hall 7 (by simp)
      have h8 := hall 8 (by simp)
      have h9 := hall 9 (by simp)
      simp at h0 h1 h2 h3 h4 h5 h6 h7 h8 h9
      subst h0 h1 h2 h3 h4 h5 h6 h7 h8 h9
      clear hall
      refine idK _ _ ?_
      simp only [cond_true]
      obtain ⟨h1, h2, h3⟩ := hR.c rfl
      have HH1 := Lib.hid h1
      have HH2 := Lib.hid h2
      have HH3 := Lib.hid h3
      clear hR h1 h2 h3
      show PR.Kept T' w.heap.size V0.heap.size W w' ∧ (∃ v, Boxed w' (w.heap.size + 1) 136 v ∧ DemS U B w' (pre ++ [k]).reverse v (.pointer ad)) ∧ w'.heap[w.heap.size]? = some (.cells #[v0, v1, .slice a3 n cA, .slice (some ⟨bQ, oQ, none⟩) n y4] 71 (0, 0)) ∧ Below w.heap.size w w'
      refine ⟨HH3.out, ⟨_, HH2.out, ?_⟩, HH3.out.typed _ _ _ _ HP.out HTG.out, HBW.out.trans HH3.out.below⟩
      rw [List.reverse_append]
      refine ⟨_, _, rfl, ?_, HD.out.keep (fun j xs fr h => HH3.out.typed _ _ _ _ h HTD.out)⟩
      rw [HU.out, ← HBK.out]
      exact HH1.out
    · exact ⟨false, false, false, false, false, false, false, false, false, false, 0, by simp, rfl, rfl, ⟨fun _ => (Below.refl _ _).drew, fun e => Bool.noConfusion e, fun e => Bool.noConfusion e⟩⟩
    · rintro listed ac w' i oi ⟨b0, b1, b2, b3, b4, b5, b6, b7, b8, b9, bl, ⟨e2, e4, e5, e7, e8, e9⟩, rfl, rfl, hR⟩ ho hun hdep
      have hi : i < 10 := by simpa using (Array.getElem?_eq_some_iff.1 ho).1
      obtain rfl | rfl | rfl | rfl | rfl | rfl | rfl | rfl | rfl | rfl : i = 0 ∨ i = 1 ∨ i = 2 ∨ i = 3 ∨ i = 4 ∨ i = 5 ∨ i = 6 ∨ i = 7 ∨ i = 8 ∨ i = 9 := by omega
      · -- 0
        simp only [List.getElem?_toArray, List.getElem?_cons_zero, Option.some.injEq] at ho
        subst ho
        have hbi : b0 = false := by simpa using hun
        subst hbi
        obtain rfl : b7 = false := Bool.eq_false_iff.2 (fun h => Bool.noConfusion (e7 h).1)
        obtain rfl : b8 = false := Bool.eq_false_iff.2 (fun h => Bool.noConfusion (e8 h))
        obtain rfl : b9 = false := Bool.eq_false_iff.2 (fun h => Bool.noConfusion (e9 h))
        refine wpOpIn_step rfl (fun K hK => ?_)
        clear hun hdep hi
        go_simp
        refine hK _ _ ⟨true, b1, b2, b3, b4, b5, b6, false, false, false, bl, ⟨e2, e4, e5, fun h => Bool.noConfusion h, fun h => Bool.noConfusion h, fun h => Bool.noConfusion h⟩, rfl, rfl, hR⟩
      · -- 1
        simp only [List.getElem?_toArray, List.getElem?_cons_succ, List.getElem?_cons_zero, Option.some.injEq] at ho
        subst ho
        have hbi : b1 = false := by simpa using hun
        subst hbi
        obtain rfl : b2 = false := Bool.eq_false_iff.2 (fun h => Bool.noConfusion (e2 h))
        obtain rfl : b4 = false := Bool.eq_false_iff.2 (fun h => Bool.noConfusion (e4 h).1)
        obtain rfl : b5 = false := Bool.eq_false_iff.2 (fun h => Bool.noConfusion (e5 h))
        obtain rfl : b7 = false := Bool.eq_false_iff.2 (fun h => Bool.noConfusion (e7 h).2.1)
        obtain rfl : b8 = false := Bool.eq_false_iff.2 (fun h => Bool.noConfusion (e8 h))
        obtain rfl : b9 = false := Bool.eq_false_iff.2 (fun h => Bool.noConfusion (e9 h))
        refine wpOpIn_step rfl (fun K hK => ?_)
        clear hun hdep hi
        go_simp
        refine hK _ _ ⟨b0, true, false, b3, false, false, b6, false, false, false, bl, ⟨fun h => Bool.noConfusion h, fun h => Bool.noConfusion h, fun h => Bool.noConfusion h, fun h => Bool.noConfusion h, fun h => Bool.noConfusion h, fun h => Bool.noConfusion h⟩, rfl, rfl, hR⟩
      · -- 2
        simp only [List.getElem?_toArray, List.getElem?_cons_succ, List.getElem?_cons_zero, Option.some.injEq] at ho
        subst ho
        have hbi : b2 = false := by simpa using hun
        subst hbi
        have hd1 : b1 = true := by have := hdep ⟨1, .data⟩ (by simp) rfl; simpa using this
        subst hd1
        obtain rfl : b4 = false := Bool.eq_false_iff.2 (fun h => Bool.noConfusion (e4 h).1)
        obtain rfl : b5 = false := Bool.eq_false_iff.2 (fun h => Bool.noConfusion (e5 h))
        obtain rfl : b7 = false := Bool.eq_false_iff.2 (fun h => Bool.noConfusion (e7 h).2.1)
        obtain rfl : b8 = false := Bool.eq_false_iff.2 (fun h => Bool.noConfusion (e8 h))
        obtain rfl : b9 = false := Bool.eq_false_iff.2 (fun h => Bool.noConfusion (e9 h))
        refine wpOpIn_step rfl (fun K hK => ?_)
        clear hun hdep hi
        have k0 := ((hR.a rfl).cell (p := ⟨w.heap.size, 3, none⟩) hwz).trans c3
        go_simp
        refine hK _ _ ⟨b0, true, true, b3, false, false, b6, false, false, false, bl, ⟨fun _ => rfl, fun h => Bool.noConfusion h, fun h => Bool.noConfusion h, fun h => Bool.noConfusion h, fun h => Bool.noConfusion h, fun h => Bool.noConfusion h⟩, rfl, rfl, hR⟩
      · -- 3
        simp only [List.getElem?_toArray, List.getElem?_cons_succ, List.getElem?_cons_zero, Option.some.injEq] at ho
        subst ho
        have hbi : b3 = false := by simpa using hun
        subst hbi
        obtain rfl : b4 = false := Bool.eq_false_iff.2 (fun h => Bool.noConfusion (e4 h).2)
        obtain rfl : b5 = false := Bool.eq_false_iff.2 (fun h => Bool.noConfusion (e5 h))
        obtain rfl : b7 = false := Bool.eq_false_iff.2 (fun h => Bool.noConfusion (e7 h).2.1)
        obtain rfl : b8 = false := Bool.eq_false_iff.2 (fun h => Bool.noConfusion (e8 h))
        obtain rfl : b9 = false := Bool.eq_false_iff.2 (fun h => Bool.noConfusion (e9 h))
        refine wpOpIn_step rfl (fun K hK => ?_)
        clear hun hdep hi
        go_simp
        refine hK _ _ ⟨b0, b1, b2, true, false, false, b6, false, false, false, bl, ⟨e2, fun h => Bool.noConfusion h, fun h => Bool.noConfusion h, fun h => Bool.noConfusion h, fun h => Bool.noConfusion h, fun h => Bool.noConfusion h⟩, rfl, rfl, hR⟩
      · -- 4
        simp only [List.getElem?_toArray, List.getElem?_cons_succ, List.getElem?_cons_zero, Option.some.injEq] at ho
        subst ho
        have hbi : b4 = false := by simpa using hun
        subst hbi
        have hd2 : b2 = true := by have := hdep ⟨2, .data⟩ (by simp) rfl; simpa using this
        have hd3 : b3 = true := by have := hdep ⟨3, .data⟩ (by simp) rfl; simpa using this
        have hd1 : b1 = true := (e2 hd2)
        subst hd1 hd2 hd3
        obtain rfl : b5 = false := Bool.eq_false_iff.2 (fun h => Bool.noConfusion (e5 h))
        obtain rfl : b7 = false := Bool.eq_false_iff.2 (fun h => Bool.noConfusion (e7 h).2.1)
        obtain rfl : b8 = false := Bool.eq_false_iff.2 (fun h => Bool.noConfusion (e8 h))
        obtain rfl : b9 = false := Bool.eq_false_iff.2 (fun h => Bool.noConfusion (e9 h))
        refine wpOpIn_step rfl (fun K hK => ?_)
        clear hun hdep hi
        go_simp
        refine hK _ _ ⟨b0, true, true, true, true, false, b6, false, false, false, bl, ⟨fun _ => rfl, fun _ => ⟨rfl, rfl⟩, fun h => Bool.noConfusion h, fun h => Bool.noConfusion h, fun h => Bool.noConfusion h, fun h => Bool.noConfusion h⟩, rfl, rfl, hR⟩
      · -- 5
        simp only [List.getElem?_toArray, List.getElem?_cons_succ, List.getElem?_cons_zero, Option.some.injEq] at ho
        subst ho
        have hbi : b5 = false := by simpa using hun
        subst hbi
        have hd4 : b4 = true := by have := hdep ⟨4, .data⟩ (by simp) rfl; simpa using this
        have hd3 : b3 = true := (e4 hd4).2
        have hd2 : b2 = true := (e4 hd4).1
        have hd1 : b1 = true := (e2 hd2)
        subst hd1 hd2 hd3 hd4
        obtain rfl : b7 = false := Bool.eq_false_iff.2 (fun h => Bool.noConfusion (e7 h).2.1)
        obtain rfl : b8 = false := Bool.eq_false_iff.2 (fun h => Bool.noConfusion (e8 h))
        obtain rfl : b9 = false := Bool.eq_false_iff.2 (fun h => Bool.noConfusion (e9 h))
        refine wpOpIn_step rfl (fun K hK => ?_)
        clear hun hdep hi
        have k0 := ((hR.a rfl).cell (p := ⟨bQ, oQ + k, none⟩) hbQW).trans ck
        go_simp
        refine hK _ _ ⟨b0, true, true, true, true, true, b6, false, false, false, bl, ⟨fun _ => rfl, fun _ => ⟨rfl, rfl⟩, fun _ => rfl, fun h => Bool.noConfusion h, fun h => Bool.noConfusion h, fun h => Bool.noConfusion h⟩, rfl, rfl, hR⟩
      · -- 6
        simp only [List.getElem?_toArray, List.getElem?_cons_succ, List.getElem?_cons_zero, Option.some.injEq] at ho
        subst ho
        have hbi : b6 = false := by simpa using hun
        subst hbi
        obtain rfl : b7 = false := Bool.eq_false_iff.2 (fun h => Bool.noConfusion (e7 h).2.2)
        obtain rfl : b8 = false := Bool.eq_false_iff.2 (fun h => Bool.noConfusion (e8 h))
        obtain rfl : b9 = false := Bool.eq_false_iff.2 (fun h => Bool.noConfusion (e9 h))
        refine wpOpIn_step rfl (fun K hK => ?_)
        clear hun hdep hi
        have k0 := ((hR.a rfl).cell (p := ⟨w.heap.size + 1, 0, none⟩) hvz).trans cv
        go_simp
        refine hK _ _ ⟨b0, b1, b2, b3, b4, b5, true, false, false, false, bl, ⟨e2, e4, e5, fun h => Bool.noConfusion h, fun h => Bool.noConfusion h, fun h => Bool.noConfusion h⟩, rfl, rfl, hR⟩
      · -- 7
        simp only [List.getElem?_toArray, List.getElem?_cons_succ, List.getElem?_cons_zero, Option.some.injEq] at ho
        subst ho
        have hbi : b7 = false := by simpa using hun
        subst hbi
        have hd0 : b0 = true := by have := hdep ⟨0, .data⟩ (by simp) rfl; simpa using this
        have hd5 : b5 = true := by have := hdep ⟨5, .data⟩ (by simp) rfl; simpa using this
        have hd6 : b6 = true := by have := hdep ⟨6, .data⟩ (by simp) rfl; simpa using this
        have hd4 : b4 = true := (e5 hd5)
        have hd3 : b3 = true := (e4 hd4).2
        have hd2 : b2 = true := (e4 hd4).1
        have hd1 : b1 = true := (e2 hd2)
        subst hd0 hd1 hd2 hd3 hd4 hd5 hd6
        obtain rfl : b8 = false := Bool.eq_false_iff.2 (fun h => Bool.noConfusion (e8 h))
        obtain rfl : b9 = false := Bool.eq_false_iff.2 (fun h => Bool.noConfusion (e9 h))
        refine wpOpIn_step rfl (fun K hK => ?_)
        clear hun hdep hi
        go_simp
        refine hK _ _ ⟨true, true, true, true, true, true, true, true, false, false, bl, ⟨fun _ => rfl, fun _ => ⟨rfl, rfl⟩, fun _ => rfl, fun _ => ⟨rfl, rfl, rfl⟩, fun h => Bool.noConfusion h, fun h => Bool.noConfusion h⟩, rfl, rfl, hR⟩
      · -- 8
        simp only [List.getElem?_toArray, List.getElem?_cons_succ, List.getElem?_cons_zero, Option.some.injEq] at ho
        subst ho
        have hbi : b8 = false := by simpa using hun
        subst hbi
        have hd7 : b7 = true := by have := hdep ⟨7, .data⟩ (by simp) rfl; simpa using this
        have hd6 : b6 = true := (e7 hd7).2.2
        have hd5 : b5 = true := (e7 hd7).2.1
        have hd4 : b4 = true := (e5 hd5)
        have hd3 : b3 = true := (e4 hd4).2
        have hd2 : b2 = true := (e4 hd4).1
        have hd1 : b1 = true := (e2 hd2)
        have hd0 : b0 = true := (e7 hd7).1
        subst hd0 hd1 hd2 hd3 hd4 hd5 hd6 hd7
        obtain rfl : b9 = false := Bool.eq_false_iff.2 (fun h => Bool.noConfusion (e9 h))
        refine wpOpIn_step rfl (fun K hK => ?_)
        clear hun hdep hi
        go_simp
        refine hK _ _ ⟨true, true, true, true, true, true, true, true, true, false, w'.heap.size, ⟨fun _ => rfl, fun _ => ⟨rfl, rfl⟩, fun _ => rfl, fun _ => ⟨rfl, rfl, rfl⟩, fun _ => rfl, fun h => Bool.noConfusion h⟩, rfl, rfl, hR.box_⟩
      · -- 9
        simp only [List.getElem?_toArray, List.getElem?_cons_succ, List.getElem?_cons_zero, Option.some.injEq] at ho
        subst ho
        have hbi : b9 = false := by simpa using hun
        subst hbi
        have hd8 : b8 = true := by have := hdep ⟨8, .data⟩ (by simp) rfl; simpa using this
        have hd7 : b7 = true := (e8 hd8)
        have hd6 : b6 = true := (e7 hd7).2.2
        have hd5 : b5 = true := (e7 hd7).2.1
        have hd4 : b4 = true := (e5 hd5)
        have hd3 : b3 = true := (e4 hd4).2
        have hd2 : b2 = true := (e4 hd4).1
        have hd1 : b1 = true := (e2 hd2)
        have hd0 : b0 = true := (e7 hd7).1
        subst hd0 hd1 hd2 hd3 hd4 hd5 hd6 hd7 hd8
        refine wpOpIn_step rfl (fun K hK => ?_)
        clear hun hdep hi
        have k0 := (hR.bx HV.out).cell
        have k1 := (hR.bx HV.out).frozen
        go_simp
        refine hK _ _ ⟨true, true, true, true, true, true, true, true, true, true, bl, ⟨fun _ => rfl, fun _ => ⟨rfl, rfl⟩, fun _ => rfl, fun _ => ⟨rfl, rfl, rfl⟩, fun _ => rfl, fun _ => rfl⟩, rfl, rfl, hR.store_ HV.out HTP.out (by omega) (by omega)⟩
  case done =>
    rintro D ys W hD rfl ⟨⟨v, hv, hd⟩, hp, hB⟩ hK
    rw [HRV.out] at hd
    have hc := hv.cell
    have HD := Lib.hid hd
    have HB2 := Lib.hid hB
    obtain ⟨ap, rfl⟩ := hd.ptr ⟨_, rfl⟩
    clear hd hB hp hv
    gi_wp2
    refine ⟨by simp, .inl ⟨_, _, rfl, run_takeDeferred hK, ?_⟩⟩
    refine ⟨_, results_tmp rfl _ _ _, _, rfl, HD.out.keep (fun k xs fr h => (World.putObj_heap_other (fun e => by
      subst e
      rw [h] at hK
      cases hK)).trans h), HB2.out.trans (belowK_b (w := w) (Nat.le_refl _) W D _ _ (by have := HS0.out; omega) hK rfl rfl)⟩
  case stop =>
    rintro D pre W _ h _
    exact h.elim
end Go.Proofs.Ytoglmkjmnknbbaa.PW
