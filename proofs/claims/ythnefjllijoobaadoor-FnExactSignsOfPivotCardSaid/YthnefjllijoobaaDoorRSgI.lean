/-
  Walks: the signs of a pivot in the program; the exact law of SignsOfPivot.
-/
import Derived.Test.YthnefjllijoobaaDoorRSg
namespace Go.Proofs.YthnefjllijoobaaDoor.PW
open Go.RowKit Go.Proofs.YthnefjllijoobaaDoor
open Go.Proofs.YthnefjllijoobaaDoor.PM Go.Proofs.YthnefjllijoobaaDoor.PX

/-- A number is appended to one of the rows. -/
theorem OwnRs.growRow {B C g cap i n gn capn L : Nat} {W W3 W4 : World} {x : Int} {xss : List (List Int)} {us : List Value} (h : OwnRs B W (.slice (some ⟨g, 0, none⟩) n cap) xss us) (hn : xss.length = n) (hi : i < n) (hb : Below W.heap.size W W3)
    (hL : (xss.getD i []).length = L) (hown : W4.ownsRow C 2 1 (.slice (some ⟨gn, 0, none⟩) (L + 1) capn) (L + 1) ((xss.getD i []).map (Value.int .i64) ++ [.int .i64 x])) (hgrow : W3.grownBy W4 (us.getD i undef).ownBlock)
    (hat : (us.getD i undef).ownBlock = some gn ∨ gn = W3.heap.size) (hgl : gn < W4.heap.size) :
    OwnRs B (W4.setCell ⟨g, i, none⟩ (.slice (some ⟨gn, 0, none⟩) (L + 1) capn)) (.slice (some ⟨g, 0, none⟩) n cap) (xss.set i (xss.getD i [] ++ [x])) (us.set i (.slice (some ⟨gn, 0, none⟩) (L + 1) capn)) := by
  obtain ⟨⟨hl, htop, hrw, hap, hov⟩, hm, hr⟩ := h
  subst hn
  subst hL
  have hz3 := hb.size
  have hz4 := hgrow.size
  have hg := hm g rfl
  have hgn : B ≤ gn ∧ gn ≠ g := by
    rcases hat with c | c
    · exact ⟨(hr i gn hi c).1, fun e => hov i g hi rfl (by rw [← e]; exact c)⟩
    · exact ⟨by omega, by omega⟩
  have htop4 : W4.ownsRow 0 23 1 (.slice (some ⟨g, 0, none⟩) xss.length cap) xss.length us := own_keep htop (fun b hb' => by
    simp [Value.ownBlock] at hb'
    subst hb'
    exact (hgrow.block g (by omega) (fun c => hov i g hi rfl c.symm)).trans (hb.block g hg.2))
  have hrow4 : ∀ k, k < xss.length → k ≠ i → OwnI W4 (us.getD k undef) (xss.getD k []) := fun k hk hki => own_keep (hrw k hk) (fun b hb' => (hgrow.block b (by have := (hr k b hk hb').2; omega) (fun c => hki (hap k i b hk hi hb' c.symm))).trans (hb.block b (hr k b hk hb').2))
  have hnew : OwnI W4 (.slice (some ⟨gn, 0, none⟩) ((xss.getD i []).length + 1) capn) (xss.getD i [] ++ [x]) := by
    unfold OwnI
    rw [List.length_append, List.map_append]
    exact own_base' hown
  have hne : ∀ j, j < xss.length → j ≠ i → (us.getD j undef).ownBlock ≠ some gn := fun j hj hji c => by
    rcases hat with e | e
    · exact hji (hap j i gn hj hi c e)
    · have := (hr j gn hj c).2; omega
  have ht : Tch [g] W4 (W4.setCell ⟨g, i, none⟩ (.slice (some ⟨gn, 0, none⟩) ((xss.getD i []).length + 1) capn)) := (Tch.refl _ _).setCell (by simp) _
  have hlen : (xss.set i (xss.getD i [] ++ [x])).length = xss.length := by simp
  have hui : i < us.length := by rw [hl]; exact hi
  refine ⟨⟨by rw [hlen]; simp [hl], ?_, fun k hk => ?_, fun a b c ha hb' h1' h2' => ?_, fun k b hk hv' hb' => ?_⟩, fun b hb' => ?_, fun k b hk hb' => ?_⟩
  · rw [hlen]; exact (World.ownsRow.stored htop4 i _).1
  · rw [hlen] at hk
    by_cases e : k = i
    · subst e
      rw [getD_set_self _ _ _ _ hui, getD_set_self _ _ _ _ hi]
      exact hnew.tch ht (fun b hb' c => by simp [Value.ownBlock] at hb' c; omega)
    · rw [getD_set_ne _ _ _ e, getD_set_ne _ _ _ e]
      exact (hrow4 k hk e).tch ht (fun b hb' c => by simp at c; subst c; exact hov k b hk rfl hb')
  · rw [hlen] at ha hb'
    by_cases e1 : a = i <;> by_cases e2 : b = i
    · omega
    · subst e1
      rw [getD_set_self _ _ _ _ hui] at h1'
      rw [getD_set_ne _ _ _ e2] at h2'
      simp [Value.ownBlock] at h1'
      subst h1'
      exact absurd h2' (hne b hb' e2)
    · subst e2
      rw [getD_set_self _ _ _ _ hui] at h2'
      rw [getD_set_ne _ _ _ e1] at h1'
      simp [Value.ownBlock] at h2'
      subst h2'
      exact absurd h1' (hne a ha e1)
    · rw [getD_set_ne _ _ _ e1] at h1'
      rw [getD_set_ne _ _ _ e2] at h2'
      exact hap a b c ha hb' h1' h2'
  · rw [hlen] at hk
    simp [Value.ownBlock] at hv'
    subst hv'
    by_cases e : k = i
    · subst e
      rw [getD_set_self _ _ _ _ hui] at hb'
      simp [Value.ownBlock] at hb'
      exact hgn.2 hb'
    · rw [getD_set_ne _ _ _ e] at hb'
      exact hov k g hk rfl hb'
  · simp [Value.ownBlock] at hb'
    subst hb'
    simp
    omega
  · rw [hlen] at hk
    by_cases e : k = i
    · subst e
      rw [getD_set_self _ _ _ _ hui] at hb'
      simp [Value.ownBlock] at hb'
      subst hb'
      simp
      omega
    · rw [getD_set_ne _ _ _ e] at hb'
      have := hr k b hk hb'
      simp
      omega

/-- The pivot's memory: what never changes of it, and what stands of it while its rows are appended to. -/
structure SpB (W0 : World) (n ga gq Pv : Nat) (us : List Value) : Prop where
  la : ga < W0.heap.size
  lq : gq < W0.heap.size
  lP : Pv < W0.heap.size
  lu : ∀ j b, j < n → (us.getD j undef).ownBlock = some b → b < W0.heap.size ∧ b ≠ ga ∧ b ≠ gq ∧ b ≠ Pv
  ap : ∀ i j b, i < n → j < n → (us.getD i undef).ownBlock = some b → (us.getD j undef).ownBlock = some b → i = j
structure SpS (wr : World) (n k ga gq Pv c c' : Nat) (f : Nat → Nat → Int) (g : Nat → Int) (us : List Value) : Prop where
  top : ∀ j, j < n → wr.cell? ⟨ga, j, none⟩ = some (us.getD j undef)
  rows : ∀ j, k ≤ j → j < n → OwnI wr (us.getD j undef) ((List.range n).map (f j))
  side : ∀ j, j < n → wr.cell? ⟨gq, j, none⟩ = some (.int .i64 (g j))
  b1 : wr.cell? ⟨Pv, 1, none⟩ = some (.slice (some ⟨ga, 0, none⟩) n c)
  b2 : wr.cell? ⟨Pv, 2, none⟩ = some (.slice (some ⟨gq, 0, none⟩) n c')
theorem SpS.keep {W0 wr w' : World} {n k k' ga gq Pv c c' : Nat} {f : Nat → Nat → Int} {g : Nat → Int} {us : List Value} (h : SpS wr n k ga gq Pv c c' f g us) (hB : SpB W0 n ga gq Pv us) (hk : k ≤ k')
    (hs : ∀ b, b < W0.heap.size → (∀ j, j < k' → j < n → (us.getD j undef).ownBlock ≠ some b ∨ j < k) → (∀ j, k ≤ j → j < k' → j < n → (us.getD j undef).ownBlock ≠ some b) → w'.heap[b]? = wr.heap[b]?) : SpS w' n k' ga gq Pv c c' f g us := by
  have ha : w'.heap[ga]? = wr.heap[ga]? := hs ga hB.la (fun j _ hj => .inl (fun e => (hB.lu j ga hj e).2.1 rfl)) (fun j _ _ hj e => (hB.lu j ga hj e).2.1 rfl)
  have hq : w'.heap[gq]? = wr.heap[gq]? := hs gq hB.lq (fun j _ hj => .inl (fun e => (hB.lu j gq hj e).2.2.1 rfl)) (fun j _ _ hj e => (hB.lu j gq hj e).2.2.1 rfl)
  have hP : w'.heap[Pv]? = wr.heap[Pv]? := hs Pv hB.lP (fun j _ hj => .inl (fun e => (hB.lu j Pv hj e).2.2.2 rfl)) (fun j _ _ hj e => (hB.lu j Pv hj e).2.2.2 rfl)
  refine ⟨fun j hj => (World.cell?_of_block (w := wr) (a := ⟨ga, j, none⟩) ha).trans (h.top j hj), fun j hj1 hj2 => own_keep (h.rows j (by omega) hj2) (fun b hb => hs b (hB.lu j b hj2 hb).1 (fun i hi hin => ?_) (fun i h1 h2 hin e => ?_)), fun j hj => (World.cell?_of_block (w := wr) (a := ⟨gq, j, none⟩) hq).trans (h.side j hj),
    (World.cell?_of_block (w := wr) (a := ⟨Pv, 1, none⟩) hP).trans h.b1, (World.cell?_of_block (w := wr) (a := ⟨Pv, 2, none⟩) hP).trans h.b2⟩
  · by_cases e : i < k
    · exact .inr e
    · refine .inl (fun e2 => ?_)
      have := hB.ap i j b hin hj2 e2 hb
      omega
  · have := hB.ap i j b hin hj2 e hb
    omega
theorem SpS.same {W0 wr w' : World} {n k ga gq Pv c c' : Nat} {f : Nat → Nat → Int} {g : Nat → Int} {us : List Value} (h : SpS wr n k ga gq Pv c c' f g us) (hB : SpB W0 n ga gq Pv us) (hs : ∀ b, b < W0.heap.size → w'.heap[b]? = wr.heap[b]?) : SpS w' n k ga gq Pv c c' f g us :=
  h.keep hB (Nat.le_refl _) (fun b hb _ _ => hs b hb)
/-- While a number is appended to a row of the result. -/
structure SgR (W w' : World) (G k L : Nat) (u : Value) (S : List Int) (x : Int) (v' : Value) (h : Nat) (b1 b2 b3 : Bool) : Prop where
  low : b2 = false → Below W.heap.size W w'
  box : b1 = true → b2 = false → w'.cell? ⟨h, 0, none⟩ = some (.int .i64 x)
  app : b2 = true → ∃ w3 w4 g2 cap, v' = .slice (some ⟨g2, 0, none⟩) (L + 1) cap ∧ Below W.heap.size W w3 ∧ w4.ownsRow 0 2 1 (.slice (some ⟨g2, 0, none⟩) (L + 1) cap) (L + 1) (S.map (Value.int .i64) ++ [.int .i64 x]) ∧
    w3.grownBy w4 u.ownBlock ∧ (u.ownBlock = some g2 ∨ g2 = w3.heap.size) ∧ g2 < w4.heap.size ∧ w' = cond b3 (w4.setCell ⟨G, k, none⟩ (.slice (some ⟨g2, 0, none⟩) (L + 1) cap)) w4
theorem SgR.box_ {W w' : World} {G k L h : Nat} {u v' : Value} {S : List Int} {x : Int} (hR : SgR W w' G k L u S x v' h false false false) : SgR W (w'.alloc (.cells #[.int .i64 x] 2)) G k L u S x v' w'.heap.size true false false :=
  ⟨fun _ => (hR.low rfl).trans (((Below.refl _ _).alloc (Nat.le_refl _) _).mono (hR.low rfl).size), fun _ _ => by simp, fun e => (by cases e)⟩
theorem SgR.app_ {W w' w'' : World} {G k L h g2 cap : Nat} {u v' : Value} {S : List Int} {x : Int} (hR : SgR W w' G k L u S x v' h true false false)
    (hown : w''.ownsRow 0 2 1 (.slice (some ⟨g2, 0, none⟩) (L + 1) cap) (L + 1) (S.map (Value.int .i64) ++ [.int .i64 x])) (hgrow : w'.grownBy w'' u.ownBlock) (hat : u.ownBlock = some g2 ∨ g2 = w'.heap.size) (hgl : g2 < w''.heap.size) :
    SgR W w'' G k L u S x (.slice (some ⟨g2, 0, none⟩) (L + 1) cap) h true true false :=
  ⟨fun e => (by cases e), fun _ e => (by cases e), fun _ => ⟨w', w'', g2, cap, rfl, hR.low rfl, hown, hgrow, hat, hgl, rfl⟩⟩
theorem SgR.store_ {W w' : World} {G k L h g2 cap : Nat} {u : Value} {S : List Int} {x : Int} (hR : SgR W w' G k L u S x (.slice (some ⟨g2, 0, none⟩) (L + 1) cap) h true true false) :
    SgR W (w'.setCell ⟨G, k, none⟩ (.slice (some ⟨g2, 0, none⟩) (L + 1) cap)) G k L u S x (.slice (some ⟨g2, 0, none⟩) (L + 1) cap) h true true true := by
  obtain ⟨w3, w4, g3, cap3, hv, h1, h2, h3, h4, h5, h6⟩ := hR.app rfl
  simp only [Value.slice.injEq, Option.some.injEq, Addr.mk.injEq, and_true, true_and] at hv
  obtain ⟨rfl, rfl⟩ := hv
  simp only [cond_false] at h6
  subst h6
  exact ⟨fun e => (by cases e), fun _ e => (by cases e), fun _ => ⟨w3, w', g2, cap, rfl, h1, h2, h3, h4, h5, rfl⟩⟩

set_option maxRecDepth 100000 in
set_option maxHeartbeats 8000000 in
theorem implSignsOfPivot_any (m q : Value) (M : List (List Int)) (Q : List Int) (s : Int) (w : World) (hG : Glob w) (h1 : PM.Rows w m M) (h2 : Ints w q Q) :
    Calls Tryd.prog 41 #[.agg #[m, q], .int .i64 s] w (OutR w (spOut M Q s)) := by
  have hmx : Tryd.prog.follows .mixedOrders = true := by kernel_rfl
  have hpv := fun (w' : World) (h : Below w.heap.size w w') => implPivotOf_any m q M Q s w' (hG.below h) (h1.below h) (h2.below h)
  obtain ⟨a1, c1, rfl, _⟩ := h1
  obtain ⟨a2, c2, rfl, _⟩ := h2
  clear hG
  by_cases hc : (pvOut M Q s).c = 0
  case neg =>
    rw [spOut_no hc]
    have HP := Lib.hid hpv
    clear hpv
    generalize pvOut M Q s = o at *
    obtain ⟨D, R, S, c0⟩ := o
    dsimp only at hc ⊢
    have hcb : (c0 == 0) = false := by simpa using hc
    go_enter Tryd.func41, Tryd.ntmps41
    go_wp2_with fail
    refine (HP.out _ (by (repeat' (first | (with_reducible exact Below.refl _ _) | (with_reducible assumption) | (with_reducible refine Below.alloc ?_ ?_ _) | (with_reducible refine Below.drew ?_) | (with_reducible refine below_drewN ?_ _) | (with_reducible refine Below.setCell ?_ ?_ _) | (with_reducible refine Below.trans ?_ (Below.mono (by with_reducible assumption) ?_)) | (with_reducible exact Below.size (by with_reducible assumption)) | go_size)))).mono ?_; rintro e w1 ⟨a, c, a', c', us, rfl, hM, hb1⟩
    dsimp only
    have hw1 : Below w.heap.size w w1 := by (repeat' (first | (with_reducible exact Below.refl _ _) | (with_reducible assumption) | (with_reducible refine Below.alloc ?_ ?_ _) | (with_reducible refine Below.drew ?_) | (with_reducible refine below_drewN ?_ _) | (with_reducible refine Below.setCell ?_ ?_ _) | (with_reducible refine Below.trans ?_ (Below.mono (by with_reducible assumption) ?_)) | (with_reducible exact Below.size (by with_reducible assumption)) | go_size))
    clear hM hb1
    go_wp2_with fail
    go_ret2
    exact outR_no (by (repeat' (first | (with_reducible exact Below.refl _ _) | (with_reducible assumption) | (with_reducible refine Below.alloc ?_ ?_ _) | (with_reducible refine Below.drew ?_) | (with_reducible refine below_drewN ?_ _) | (with_reducible refine Below.setCell ?_ ?_ _) | (with_reducible refine Below.trans ?_ (Below.mono (by with_reducible assumption) ?_)) | (with_reducible exact Below.size (by with_reducible assumption)) | go_size)))
  obtain ⟨hp, hs0, hs1, hD, ho⟩ := pvOut_facts hc
  rw [spOut_ok hc]
  rw [ho] at hpv
  have HP := Lib.hid hpv
  have hn1 := (isPB_facts hp).1
  have hn5 := (isPB_facts hp).2.1
  clear hc hp hs0 hs1 ho hpv hD
  generalize pvD M s = D at *
  generalize pvR M s = f at *
  generalize pvS M Q s = g at *
  obtain ⟨n, hn⟩ : ∃ n, n = M.length := ⟨_, rfl⟩
  rw [← hn] at hn1 hn5 ⊢
  have hmk := run_make_row' (P := Tryd.prog) 22 23 (.slice none 0 0) 24 Tryd.underlying22 info_ints rfl .i64 .i64 n (by omega) (by omega)
  obtain ⟨F0, hF0⟩ : ∃ F0 : Nat → Nat → Int, F0 = fun i k => if k < n then f i k else g i := ⟨_, rfl⟩
  have hF : sgF n f g = fun i k => sgnP (F0 i k) := by rw [hF0]; rfl
  rw [hF]
  obtain ⟨F, hFF⟩ : ∃ F, F = fun i k => sgnP (F0 i k) := ⟨_, rfl⟩
  rw [← hFF]
  have HFF := Lib.hid hFF
  have HF0 := Lib.hid hF0
  clear hF hF0 hFF
  go_enter Tryd.func41, Tryd.ntmps41
  go_wp2_with fail
  refine (HP.out _ (by (repeat' (first | (with_reducible exact Below.refl _ _) | (with_reducible assumption) | (with_reducible refine Below.alloc ?_ ?_ _) | (with_reducible refine Below.drew ?_) | (with_reducible refine below_drewN ?_ _) | (with_reducible refine Below.setCell ?_ ?_ _) | (with_reducible refine Below.trans ?_ (Below.mono (by with_reducible assumption) ?_)) | (with_reducible exact Below.size (by with_reducible assumption)) | go_size)))).mono ?_; rintro e w1 ⟨a, c, a', c', us, rfl, hM, hb1⟩
  dsimp only at hM ⊢
  rw [tab_length, row_length] at hM ⊢
  rw [← hn] at hM ⊢
  have hw1 : Below w.heap.size w w1 := by (repeat' (first | (with_reducible exact Below.refl _ _) | (with_reducible assumption) | (with_reducible refine Below.alloc ?_ ?_ _) | (with_reducible refine Below.drew ?_) | (with_reducible refine below_drewN ?_ _) | (with_reducible refine Below.setCell ?_ ?_ _) | (with_reducible refine Below.trans ?_ (Below.mono (by with_reducible assumption) ?_)) | (with_reducible exact Below.size (by with_reducible assumption)) | go_size))
  obtain ⟨ga, rfl⟩ : ∃ g, a = some ⟨g, 0, none⟩ := by
    have hl' := tab_length n f
    rcases hM.rows.rows.top.2 with ⟨hv, hn'⟩ | ⟨g, cap, cur, hv, _⟩
    · omega
    · simp at hv; exact ⟨g, hv.1⟩
  obtain ⟨gq, rfl⟩ : ∃ g, a' = some ⟨g, 0, none⟩ := by
    obtain ⟨g, cc, hv⟩ := own_at1 hM.side (row_length n g) hn1
    simp at hv
    exact ⟨g, hv.1⟩
  obtain ⟨W0, hW0⟩ : ∃ W0, W0 = (w1.alloc (.cells #[.int .i64 D, .slice (some ⟨ga, 0, none⟩) n c, .slice (some ⟨gq, 0, none⟩) n c'] 28)) := ⟨_, rfl⟩
  have hB0 : Below w1.heap.size w1 W0 := by rw [hW0]; exact (Below.refl _ _).alloc (Nat.le_refl _) _
  have hz0 : W0.heap.size = w1.heap.size + 1 := by rw [hW0]; simp
  have x1 : W0.cell? ⟨w1.heap.size, 1, none⟩ = some (.slice (some ⟨ga, 0, none⟩) n c) := by rw [hW0]; simp
  have x2 : W0.cell? ⟨w1.heap.size, 2, none⟩ = some (.slice (some ⟨gq, 0, none⟩) n c') := by rw [hW0]; simp
  have hM0 := hM.below hB0
  have hul := hM0.rows.rows.len
  rw [tab_length] at hul
  have htl := tab_length n f
  have hSB : SpB W0 n ga gq w1.heap.size us := by
    have hga := hM.rows.mb ga rfl
    have hgq := hM.qb gq rfl
    refine ⟨by omega, by omega, by omega, fun j b hj hb => ?_, fun i j b hi hj => hM.rows.rows.apart i j b (by omega) (by omega)⟩
    have h3 := hM.rows.ub j b (by omega) hb
    exact ⟨by omega, fun e => hM.rows.rows.over j ga (by omega) rfl (by rw [← e]; exact hb), fun e => hM.qu j gq (by omega) (by rw [← e]; exact hb) rfl, by omega⟩
  have hS0 : SpS W0 n 0 ga gq w1.heap.size c c' f g us := by
    have htp := hM0.rows.rows.top
    have hsd := hM0.side
    rw [htl] at htp
    refine ⟨fun j hj => ?_, fun j _ hj => ?_, fun j hj => ?_, x1, x2⟩
    · rw [World.ownsRow.cellAt htp j (by omega)]
      simp [hul, hj]
    · have := hM0.rows.rows.rows j (by omega)
      rwa [tab_row _ _ _ hj] at this
    · rw [own_cellN hsd (row_length _ _).symm hj, row_getD _ _ _ hj]
  have HLO := Lib.hid (fun j b (hj : j < n) hb => show w.heap.size ≤ b by have := (hM.rows.ub j b (by omega) hb).1; simp at this; omega)
  have hFM := freshR_made W0 n (by unfold maxLen; omega)
  rw [← sgX_zero n F] at hFM
  have hSM : SpS (W0.alloc (.cells (madeCells #[.slice none 0 0] n) 23)) n 0 ga gq w1.heap.size c c' f g us := hS0.same hSB (fun b hb => Below.heap_alloc W0 _ b hb)
  have HOM := Lib.hid hFM.ownRs
  have HSM := Lib.hid hSM
  have HSB := Lib.hid hSB
  have hBM : Below w.heap.size w (W0.alloc (.cells (madeCells #[.slice none 0 0] n) 23)) := (hw1.trans (hB0.mono hw1.size)).alloc (by have := hw1.size; omega) _
  have HBM := Lib.hid hBM
  have hwz := hw1.size
  clear hM hM0 hSM hSB hS0 hFM hBM hb1 HP hn hul htl hB0 hw1
  go_wp2_with fail
  rw [← hW0]
  clear hW0
  rw [← hz0]
  obtain ⟨Pv, hPv⟩ : ∃ Pv, Pv = w1.heap.size := ⟨_, rfl⟩
  rw [← hPv] at HSM HSB hz0 hwz ⊢
  obtain ⟨G, hG⟩ : ∃ G, G = W0.heap.size := ⟨_, rfl⟩
  rw [← hG] at HOM hz0 ⊢
  have hlS := HSB.out.lP
  rw [← hG] at hlS
  have HGE := Lib.hid hG
  obtain ⟨i0, hi, hzz0, hzz1, hzz2⟩ := info_parts info_ints
  obtain ⟨j0, hj, hyy0, hyy1, hyy2⟩ := info_parts info_int
  clear x1 x2 hPv hz0 hG
  go_loopw [9, 10, 12, 29] (fun _ _ _ i wr => ∃ (k : Nat) (vs : List Value), k ≤ n ∧ i = .int .i64 k ∧ OwnRs G wr (.slice (some ⟨G, 0, none⟩) n n) (sgX n F k 0) vs ∧ SpS wr n k ga gq Pv c c' f g us ∧ Below w.heap.size w wr) (fun _ _ _ i _ => n - (intOf i).toNat)
  case atStart => exact ⟨0, _, Nat.zero_le _, by go_num, HOM.out, HSM.out, HBM.out⟩
  case round =>
    obtain ⟨k, vs, hk, rfl, hO, hS, hB⟩ := hrel
    have hGw : G < wr.heap.size := (hO.mb G rfl).2
    by_cases hlt : k < n
    · have htk := hS.top k hlt
      have hrk := hS.rows k (Nat.le_refl _) hlt
      obtain ⟨gk, ck, huk⟩ := own_at1 hrk (row_length n (f k)) hn1
      have hgk := HSB.out.lu k gk hlt (by rw [huk]; rfl)
      rw [huk] at htk hrk
      have hsk := hS.side k hlt
      have hb1 := hS.b1
      have hb2 := hS.b2
      have how : wr.ownsRow 0 2 1 (.slice (some ⟨gk, 0, none⟩) n ck) n (((List.range n).map (f k)).map (Value.int .i64)) := by
        have := hrk
        unfold OwnI at this
        rwa [row_length] at this
      have HOW := Lib.hid how
      have HO := Lib.hid hO
      have HS := Lib.hid hS
      have HB := Lib.hid hB
      have HUK := Lib.hid huk
      have hgkG : gk < G := by have := HGE.out; omega
      clear how hrk hO hS hB huk hgk
      generalize hgx : g k = X0 at *
      have HGX := Lib.hid hgx
      clear hgx
      go_wp2_with (at_builtin; refine wpList_append_lies _ rfl _ _ 23 rfl 0 2 j0 (.int .i64 0) 1 8 Tryd.underlying23 hj hyy0 hyy1 hyy2 rfl (by decide) (.slice (some ⟨gk, 0, none⟩) n ck) n _ rfl ((HOW.out).alloc _) _ 1 _ [.int .i64 X0] rfl rfl (cell_one_new _ _ _) (by simp [Value.oneCell']) (by decide) (by unfold maxLen; omega) (by omega) (Nat.zero_le _) _ rfl ?_; intro gz cz w3 hown hgrow hat hgl)
      have hz3 := hgrow.size
      simp only [World.size_alloc] at hz3
      have hsame : ∀ b, b < wr.heap.size → b ≠ gk → w3.heap[b]? = wr.heap[b]? := fun b hb hne => (hgrow.block b (by simp; omega) (fun e => by simp [Value.ownBlock] at e; exact hne e)).trans (Below.heap_alloc wr _ b hb)
      have hO3 : OwnRs G w3 (.slice (some ⟨G, 0, none⟩) n n) (sgX n F k 0) vs := HO.out.keep (by omega) (fun q h1 h2 => hsame q h2 (by omega))
      have hS3 : SpS w3 n (k + 1) ga gq Pv c c' f g us := HS.out.keep HSB.out (Nat.le_succ _) (fun b hb _ h2 => hsame b (by have := HGE.out; omega) (fun e => h2 k (Nat.le_refl _) (Nat.lt_succ_self _) hlt (by rw [HUK.out, e]; rfl)))
      have hB3 : Below w.heap.size w w3 := (HB.out.alloc HB.out.size _).grown hgrow (by have := HB.out.size; simp; omega) (fun b hb => by simp [Value.ownBlock] at hb; subst hb; exact HLO.out k gk hlt (by rw [HUK.out]; rfl))
      have hgzG : gz ≠ G := by
        rcases hat with e | e
        · simp [Value.ownBlock] at e; omega
        · simp at e; omega
      have hgzv : ∀ j b, j < n → (vs.getD j undef).ownBlock = some b → b ≠ gz := fun j b hj' hb => by
        have h3 := HO.out.ub j b (by rw [sgX_length]; exact hj') hb
        rcases hat with e | e
        · simp [Value.ownBlock] at e; omega
        · simp at e; omega
      have hcl : ∀ l, l < n + 1 → w3.cell? ⟨gz, l, none⟩ = some (.int .i64 (F0 k l)) := fun l hl => by
        rw [World.ownsRow.cellAt hown l (by omega), HF0.out]
        by_cases e : l < n
        · simp [e, List.getElem?_append_left]
        · obtain rfl : l = n := by omega
          simp [HGX.out]
      obtain ⟨N1, hN1⟩ : ∃ N1, N1 = n + 1 := ⟨_, rfl⟩
      rw [← hN1] at hcl ⊢
      have HCL := Lib.hid hcl
      have HO3 := Lib.hid hO3
      have HS3 := Lib.hid hS3
      have HB3 := Lib.hid hB3
      have HV := Lib.hid (hgzv k · hlt)
      clear hcl hO3 hS3 hB3 hown hgrow hat hsame hgzv htk hsk hb1 hb2 HO HS HB HOW
      go_wp2_with fail
      go_loopw [12, 43] (fun _ i wi => ∃ (j : Nat) (vs2 : List Value), j ≤ N1 ∧ i = .int .i64 j ∧ OwnRs G wi (.slice (some ⟨G, 0, none⟩) n n) (sgX n F k j) vs2 ∧ SpS wi n (k + 1) ga gq Pv c c' f g us ∧ Below w.heap.size w wi ∧ (∀ l, l < N1 → wi.cell? ⟨gz, l, none⟩ = some (.int .i64 (F0 k l))) ∧ (∀ b, (vs2.getD k undef).ownBlock = some b → b ≠ gz) ∧ w3.heap.size ≤ wi.heap.size) (fun _ i _ => N1 - (intOf i).toNat)
      case atStart => exact ⟨0, vs, Nat.zero_le _, by go_num, HO3.out, HS3.out, HB3.out, HCL.out, fun b hb => HV.out b hb, Nat.le_refl _⟩
      case round =>
        obtain ⟨j, vs2, hjn, rfl, hO, hS, hB, hC, hV, hzw⟩ := hrel
        by_cases hltj : j < N1
        · have hcx := hC j hltj
          have htp := hO.rows.top
          have hvl := hO.rows.len
          rw [sgX_length] at htp hvl
          have hcl2 : wr.cell? ⟨G, k, none⟩ = some (vs2.getD k undef) := by
            rw [World.ownsRow.cellAt htp k (by omega)]
            simp [hvl, hlt]
          have hfz2 : wr.frozen? ⟨G, k, none⟩ = false := World.ownsRow.frozenAt htp k
          have hGw2 : G < wr.heap.size := (hO.mb G rfl).2
          have hru := hO.rows.rows k (by rw [sgX_length]; exact hlt)
          rw [sgX_at n F k j hlt] at hru
          have hub := fun b hb => hO.ub k b (by rw [sgX_length]; exact hlt) hb
          have hov : ∀ b, (vs2.getD k undef).ownBlock = some b → b ≠ G := fun b hb e => hO.rows.over k G (by rw [sgX_length]; exact hlt) rfl (by rw [← e]; exact hb)
          obtain ⟨u, hu⟩ : ∃ u, u = vs2.getD k undef := ⟨_, rfl⟩
          rw [← hu] at hcl2 hru hub hov hV
          have HOU := Lib.hid (fun W' (h : Below wr.heap.size wr W') => show W'.ownsRow 0 2 1 u j (((List.range j).map (F k)).map (Value.int .i64)) by
            have := own_keep hru (fun b hb => h.block b (hub b hb).2)
            rwa [row_length] at this)
          have HO := Lib.hid hO
          have HS := Lib.hid hS
          have HB := Lib.hid hB
          have HC := Lib.hid hC
          have HV2 := Lib.hid hV
          have HUB := Lib.hid hub
          have HOV2 := Lib.hid hov
          have HU := Lib.hid hu
          have hFj : F k j = sgnP (F0 k j) := by rw [HFF.out]
          have HFJ := Lib.hid hFj
          clear hO hS hB hC hV hub hov hu hru htp hvl hFj
          generalize F0 k j = X at *
          go_wp2_with fail
          obtain ⟨W, rfl⟩ : ∃ W, W = wr := ⟨_, rfl⟩
          rename_i K0 hK0
          refine (wpIn_wide (n := 8)).1 ?_
          have hgzW : gz < W.heap.size := by omega
          obtain ⟨bb, hbb⟩ : ∃ bb, bb = decide ((j : Int) < (n : Int) + 1) := ⟨_, rfl⟩
          rw [← hbb]
          have hj6 : j ≤ 5 := by omega
          clear hbb hN1
          refine PR.wpIn_region_inv hmx (by kernel_rfl) (fun listed ac w' =>
              ∃ (b0 b1 b2 b3 b4 b5 b6 b7 b8 b9 b10 b11 : Bool) (v' : Value) (hb : Nat), ((b4 = true → b2 = true ∧ b3 = true) ∧ (b5 = true → b4 = true) ∧ (b7 = true → b6 = true) ∧ (b8 = true → b7 = true) ∧ (b9 = true → b5 = true ∧ b8 = true) ∧ (b10 = true → b0 = true ∧ b1 = true) ∧ (b11 = true → b10 = true ∧ b9 = true)) ∧ listed = #[b0, b1, b2, b3, b4, b5, b6, b7, b8, b9, b10, b11] ∧
                ac = { tmps := #[.agg #[.slice a1 n c1, .slice a2 Q.length c2], .int .i64 s, .pointer (some ⟨w.heap.size, 0, none⟩), undef, .slice none 0 0, .int .i64 0, .pointer (some ⟨Pv, 0, none⟩), .int .i64 0, .slice (some ⟨G, 0, none⟩) n n, .int .i64 k, .slice (some ⟨gk, 0, none⟩) n ck, undef, .int .i64 X, .tuple #[.agg #[.int .i64 D, .slice (some ⟨ga, 0, none⟩) n c, .slice (some ⟨gq, 0, none⟩) n c'], .int .i64 0], .agg #[.slice a1 n c1, .slice a2 Q.length c2], .int .i64 s, .tuple #[.agg #[.int .i64 D, .slice (some ⟨ga, 0, none⟩) n c, .slice (some ⟨gq, 0, none⟩) n c'], .int .i64 0], .agg #[.int .i64 D, .slice (some ⟨ga, 0, none⟩) n c, .slice (some ⟨gq, 0, none⟩) n c'], .int .i64 0, .int .i64 0, .bool false, undef, .pointer (some ⟨Pv, 1, none⟩), .slice (some ⟨ga, 0, none⟩) n c, .int .i64 n, .slice (some ⟨G, 0, none⟩) n n, .pointer (some ⟨Pv, 1, none⟩), .slice (some ⟨ga, 0, none⟩) n c, .int .i64 n, .int .i64 k, .bool true, .int .i64 k, .pointer (some ⟨ga, k, none⟩), .slice (some ⟨gk, 0, none⟩) n ck, .slice (some ⟨gk, 0, none⟩) n ck, .pointer (some ⟨Pv, 2, none⟩), .slice (some ⟨gq, 0, none⟩) n c', .int .i64 k, .pointer (some ⟨gq, k, none⟩), .int .i64 X0, .slice (some ⟨wr.heap.size, 0, none⟩) 1 1, .slice (some ⟨gz, 0, none⟩) N1 cz, .int .i64 ((n : Int) + 1), .int .i64 j, .bool bb, .pointer (some ⟨gz, j, none⟩), .int .i64 X, cond b0 (.slice (some ⟨G, 0, none⟩) n n) (u47), cond b1 (.int .i64 k) (u48), cond b2 (.slice (some ⟨G, 0, none⟩) n n) (u49), cond b3 (.int .i64 k) (u50), cond b4 (.pointer (some ⟨G, k, none⟩)) (u51), cond b5 (u) (u52), cond b6 (.int .i64 X) (u53), cond b7 (.int .i64 (sgnP X)) (u54), cond b8 (.slice (some ⟨hb, 0, none⟩) 1 1) (u55), cond b9 (v') (u56), cond b10 (.pointer (some ⟨G, k, none⟩)) (u57), u58, u59, undef], defers := [] } ∧ SgR W w' G k j u ((List.range j).map (F k)) (sgnP X) v' hb b8 b9 b11) ?_ ?_ ?_ ?_
          · rintro listed ac w' ⟨b0, b1, b2, b3, b4, b5, b6, b7, b8, b9, b10, b11, v', hb, _, rfl, _⟩
            rfl
          · rintro listed ac w' ⟨b0, b1, b2, b3, b4, b5, b6, b7, b8, b9, b10, b11, v', hb, _, rfl, rfl, hR⟩ hall
            have h0 := hall 0 (by simp)
            have h1 := hall 1 (by simp)
            have h2 := hall 2 (by simp)
            have h3 := hall 3 (by simp)
            have h4 := hall 4 (by simp)
            have h5 := hall 5 (by simp)
            have h6 := hall 6 (by simp)
            have h7 := hall 7 (by simp)
            have h8 := hall 8 (by simp)
            have h9 := hall 9 (by simp)
            have h10 := hall 10 (by simp)
            have h11 := hall 11 (by simp)
            simp at h0 h1 h2 h3 h4 h5 h6 h7 h8 h9 h10 h11
            subst h0 h1 h2 h3 h4 h5 h6 h7 h8 h9 h10 h11
            clear hall
            refine hK0 _ _ ?_
            simp only [cond_true]
            obtain ⟨w3', w4', g2, cap, rfl, hl3', hown, hgr, hat, hgl, h6'⟩ := hR.app rfl
            simp only [cond_true] at h6'
            have hz3' := hl3'.size
            have hz4' := hgr.size
            have hzW' : w'.heap.size = w4'.heap.size := by rw [h6']; simp
            have hsm : ∀ b, b < W.heap.size → u.ownBlock ≠ some b → b ≠ G → w'.heap[b]? = W.heap[b]? := fun b hb hne hbG => by
              rw [h6']
              exact (Below.heap_setCell _ _ _ _ hbG).trans ((hgr.block b (by omega) (fun e => hne e.symm)).trans (hl3'.block b hb))
            have hO' := HO.out.growRow (i := k) (sgX_length n F k j) hlt hl3' (L := j) (by rw [sgX_at n F k j hlt, row_length]) (by rw [sgX_at n F k j hlt]; exact hown) (by rw [← HU.out]; exact hgr) (by rw [← HU.out]; exact hat) hgl
            rw [sgX_at n F k j hlt, ← HFJ.out, sgX_step, ← h6'] at hO'
            have hS' := HS.out.same HSB.out (fun b hb => hsm b (by have := HGE.out; omega) (fun e => by have := (HUB.out b e).1; have := HGE.out; omega) (by have := HGE.out; omega))
            have hB' : Below w.heap.size w w' := by
              rw [h6']
              exact ((HB.out.trans (hl3'.mono HB.out.size)).grown hgr (by have := HB.out.size; omega) (fun b hb => by have := (HUB.out b hb).1; omega)).setCell (p := ⟨G, k, none⟩) (by show w.heap.size ≤ G; omega) _
            have hC' : ∀ l, l < N1 → w'.cell? ⟨gz, l, none⟩ = some (.int .i64 (F0 k l)) := fun l hl => (World.cell?_of_block (w := W) (a := ⟨gz, l, none⟩) (hsm gz hgzW (fun e => HV2.out gz e rfl) hgzG)).trans (HC.out l hl)
            have hV' : ∀ b, ((vs2.set k (.slice (some ⟨g2, 0, none⟩) (j + 1) cap)).getD k undef).ownBlock = some b → b ≠ gz := fun b hb => by
              rw [getD_set_self _ _ _ _ (by rw [HO.out.rows.len, sgX_length]; exact hlt)] at hb
              simp [Value.ownBlock] at hb
              subst hb
              rcases hat with e | e
              · exact HV2.out _ e
              · omega
            have HO' := Lib.hid hO'
            have HS' := Lib.hid hS'
            have HB' := Lib.hid hB'
            have HC' := Lib.hid hC'
            have HV' := Lib.hid hV'
            have hzz' : w3.heap.size ≤ w'.heap.size := by omega
            clear hR hO' hS' hB' hC' hV' hsm hown hgr hat hl3' h6' hcl2 hfz2
            go_wp2_with fail
            go_roundw
            case rel => exact ⟨j + 1, _, by omega, by go_num, HO'.out, HS'.out, HB'.out, HC'.out, HV'.out, hzz'⟩
            case measure => simp [intOf]; omega
          · exact ⟨false, false, false, false, false, false, false, false, false, false, false, false, undef, 0, by simp, rfl, rfl, ⟨fun _ => (Below.refl _ _).drew, fun e => (by cases e), fun e => (by cases e)⟩⟩
          · rintro listed ac w' i oi ⟨b0, b1, b2, b3, b4, b5, b6, b7, b8, b9, b10, b11, v', hb, ⟨e4, e5, e7, e8, e9, e10, e11⟩, rfl, rfl, hR⟩ ho hun hdep
            have hi : i < 12 := by simpa using (Array.getElem?_eq_some_iff.1 ho).1
            obtain rfl | rfl | rfl | rfl | rfl | rfl | rfl | rfl | rfl | rfl | rfl | rfl : i = 0 ∨ i = 1 ∨ i = 2 ∨ i = 3 ∨ i = 4 ∨ i = 5 ∨ i = 6 ∨ i = 7 ∨ i = 8 ∨ i = 9 ∨ i = 10 ∨ i = 11 := by omega
            · -- 0
              simp only [List.getElem?_toArray, List.getElem?_cons_zero, Option.some.injEq] at ho
              subst ho
              have hbi : b0 = false := by simpa using hun
              subst hbi
              obtain rfl : b10 = false := Bool.eq_false_iff.2 (fun h => Bool.noConfusion (e10 h).1)
              obtain rfl : b11 = false := Bool.eq_false_iff.2 (fun h => Bool.noConfusion (e11 h).1)
              refine wpOpIn_step rfl (fun K hK => ?_)
              clear hun hdep hi
              go_simp
              refine hK _ _ ⟨true, b1, b2, b3, b4, b5, b6, b7, b8, b9, false, false, v', hb, ⟨e4, e5, e7, e8, e9, fun h => Bool.noConfusion h, fun h => Bool.noConfusion h⟩, rfl, rfl, hR⟩
            · -- 1
              simp only [List.getElem?_toArray, List.getElem?_cons_succ, List.getElem?_cons_zero, Option.some.injEq] at ho
              subst ho
              have hbi : b1 = false := by simpa using hun
              subst hbi
              obtain rfl : b10 = false := Bool.eq_false_iff.2 (fun h => Bool.noConfusion (e10 h).2)
              obtain rfl : b11 = false := Bool.eq_false_iff.2 (fun h => Bool.noConfusion (e11 h).1)
              refine wpOpIn_step rfl (fun K hK => ?_)
              clear hun hdep hi
              go_simp
              refine hK _ _ ⟨b0, true, b2, b3, b4, b5, b6, b7, b8, b9, false, false, v', hb, ⟨e4, e5, e7, e8, e9, fun h => Bool.noConfusion h, fun h => Bool.noConfusion h⟩, rfl, rfl, hR⟩
            · -- 2
              simp only [List.getElem?_toArray, List.getElem?_cons_succ, List.getElem?_cons_zero, Option.some.injEq] at ho
              subst ho
              have hbi : b2 = false := by simpa using hun
              subst hbi
              obtain rfl : b4 = false := Bool.eq_false_iff.2 (fun h => Bool.noConfusion (e4 h).1)
              obtain rfl : b5 = false := Bool.eq_false_iff.2 (fun h => Bool.noConfusion (e5 h))
              obtain rfl : b9 = false := Bool.eq_false_iff.2 (fun h => Bool.noConfusion (e9 h).1)
              obtain rfl : b11 = false := Bool.eq_false_iff.2 (fun h => Bool.noConfusion (e11 h).2)
              refine wpOpIn_step rfl (fun K hK => ?_)
              clear hun hdep hi
              go_simp
              refine hK _ _ ⟨b0, b1, true, b3, false, false, b6, b7, b8, false, b10, false, v', hb, ⟨fun h => Bool.noConfusion h, fun h => Bool.noConfusion h, e7, e8, fun h => Bool.noConfusion h, e10, fun h => Bool.noConfusion h⟩, rfl, rfl, hR⟩
            · -- 3
              simp only [List.getElem?_toArray, List.getElem?_cons_succ, List.getElem?_cons_zero, Option.some.injEq] at ho
              subst ho
              have hbi : b3 = false := by simpa using hun
              subst hbi
              obtain rfl : b4 = false := Bool.eq_false_iff.2 (fun h => Bool.noConfusion (e4 h).2)
              obtain rfl : b5 = false := Bool.eq_false_iff.2 (fun h => Bool.noConfusion (e5 h))
              obtain rfl : b9 = false := Bool.eq_false_iff.2 (fun h => Bool.noConfusion (e9 h).1)
              obtain rfl : b11 = false := Bool.eq_false_iff.2 (fun h => Bool.noConfusion (e11 h).2)
              refine wpOpIn_step rfl (fun K hK => ?_)
              clear hun hdep hi
              go_simp
              refine hK _ _ ⟨b0, b1, b2, true, false, false, b6, b7, b8, false, b10, false, v', hb, ⟨fun h => Bool.noConfusion h, fun h => Bool.noConfusion h, e7, e8, fun h => Bool.noConfusion h, e10, fun h => Bool.noConfusion h⟩, rfl, rfl, hR⟩
            · -- 4
              simp only [List.getElem?_toArray, List.getElem?_cons_succ, List.getElem?_cons_zero, Option.some.injEq] at ho
              subst ho
              have hbi : b4 = false := by simpa using hun
              subst hbi
              have hd2 : b2 = true := by have := hdep ⟨2, .data⟩ (by simp) rfl; simpa using this
              have hd3 : b3 = true := by have := hdep ⟨3, .data⟩ (by simp) rfl; simpa using this
              subst hd2 hd3
              obtain rfl : b5 = false := Bool.eq_false_iff.2 (fun h => Bool.noConfusion (e5 h))
              obtain rfl : b9 = false := Bool.eq_false_iff.2 (fun h => Bool.noConfusion (e9 h).1)
              obtain rfl : b11 = false := Bool.eq_false_iff.2 (fun h => Bool.noConfusion (e11 h).2)
              refine wpOpIn_step rfl (fun K hK => ?_)
              clear hun hdep hi
              go_simp
              refine hK _ _ ⟨b0, b1, true, true, true, false, b6, b7, b8, false, b10, false, v', hb, ⟨fun _ => ⟨rfl, rfl⟩, fun h => Bool.noConfusion h, e7, e8, fun h => Bool.noConfusion h, e10, fun h => Bool.noConfusion h⟩, rfl, rfl, hR⟩
            · -- 5
              simp only [List.getElem?_toArray, List.getElem?_cons_succ, List.getElem?_cons_zero, Option.some.injEq] at ho
              subst ho
              have hbi : b5 = false := by simpa using hun
              subst hbi
              have hd4 : b4 = true := by have := hdep ⟨4, .data⟩ (by simp) rfl; simpa using this
              have hd3 : b3 = true := (e4 hd4).2
              have hd2 : b2 = true := (e4 hd4).1
              subst hd2 hd3 hd4
              obtain rfl : b9 = false := Bool.eq_false_iff.2 (fun h => Bool.noConfusion (e9 h).1)
              obtain rfl : b11 = false := Bool.eq_false_iff.2 (fun h => Bool.noConfusion (e11 h).2)
              refine wpOpIn_step rfl (fun K hK => ?_)
              clear hun hdep hi
              have t0 := ((hR.low rfl).cell (p := ⟨G, k, none⟩) hGw2).trans hcl2
              go_simp
              refine hK _ _ ⟨b0, b1, true, true, true, true, b6, b7, b8, false, b10, false, v', hb, ⟨fun _ => ⟨rfl, rfl⟩, fun _ => rfl, e7, e8, fun h => Bool.noConfusion h, e10, fun h => Bool.noConfusion h⟩, rfl, rfl, hR⟩
            · -- 6
              simp only [List.getElem?_toArray, List.getElem?_cons_succ, List.getElem?_cons_zero, Option.some.injEq] at ho
              subst ho
              have hbi : b6 = false := by simpa using hun
              subst hbi
              obtain rfl : b7 = false := Bool.eq_false_iff.2 (fun h => Bool.noConfusion (e7 h))
              obtain rfl : b8 = false := Bool.eq_false_iff.2 (fun h => Bool.noConfusion (e8 h))
              obtain rfl : b9 = false := Bool.eq_false_iff.2 (fun h => Bool.noConfusion (e9 h).2)
              obtain rfl : b11 = false := Bool.eq_false_iff.2 (fun h => Bool.noConfusion (e11 h).2)
              refine wpOpIn_step rfl (fun K hK => ?_)
              clear hun hdep hi
              go_simp
              refine hK _ _ ⟨b0, b1, b2, b3, b4, b5, true, false, false, false, b10, false, v', hb, ⟨e4, e5, fun h => Bool.noConfusion h, fun h => Bool.noConfusion h, fun h => Bool.noConfusion h, e10, fun h => Bool.noConfusion h⟩, rfl, rfl, hR⟩
            · -- 7
              simp only [List.getElem?_toArray, List.getElem?_cons_succ, List.getElem?_cons_zero, Option.some.injEq] at ho
              subst ho
              have hbi : b7 = false := by simpa using hun
              subst hbi
              have hd6 : b6 = true := by have := hdep ⟨6, .data⟩ (by simp) rfl; simpa using this
              subst hd6
              obtain rfl : b8 = false := Bool.eq_false_iff.2 (fun h => Bool.noConfusion (e8 h))
              obtain rfl : b9 = false := Bool.eq_false_iff.2 (fun h => Bool.noConfusion (e9 h).2)
              obtain rfl : b11 = false := Bool.eq_false_iff.2 (fun h => Bool.noConfusion (e11 h).2)
              refine wpOpIn_step rfl (fun K hK => ?_)
              clear hun hdep hi
              go_simp
              refine ⟨trivial, (callsIn_wide.2 (compareP_any X w')).mono ?_⟩
              rintro e w'' ⟨rfl, rfl⟩
              refine hK _ _ ⟨b0, b1, b2, b3, b4, b5, true, true, false, false, b10, false, v', hb, ⟨e4, e5, fun _ => rfl, fun h => Bool.noConfusion h, fun h => Bool.noConfusion h, e10, fun h => Bool.noConfusion h⟩, rfl, rfl, hR⟩
            · -- 8
              simp only [List.getElem?_toArray, List.getElem?_cons_succ, List.getElem?_cons_zero, Option.some.injEq] at ho
              subst ho
              have hbi : b8 = false := by simpa using hun
              subst hbi
              have hd7 : b7 = true := by have := hdep ⟨7, .data⟩ (by simp) rfl; simpa using this
              have hd6 : b6 = true := (e7 hd7)
              subst hd6 hd7
              obtain rfl : b9 = false := Bool.eq_false_iff.2 (fun h => Bool.noConfusion (e9 h).2)
              obtain rfl : b11 = false := Bool.eq_false_iff.2 (fun h => Bool.noConfusion (e11 h).2)
              refine wpOpIn_step rfl (fun K hK => ?_)
              clear hun hdep hi
              go_simp
              refine hK _ _ ⟨b0, b1, b2, b3, b4, b5, true, true, true, false, b10, false, v', w'.heap.size, ⟨e4, e5, fun _ => rfl, fun _ => rfl, fun h => Bool.noConfusion h, e10, fun h => Bool.noConfusion h⟩, rfl, rfl, hR.box_⟩
            · -- 9
              simp only [List.getElem?_toArray, List.getElem?_cons_succ, List.getElem?_cons_zero, Option.some.injEq] at ho
              subst ho
              have hbi : b9 = false := by simpa using hun
              subst hbi
              have hd5 : b5 = true := by have := hdep ⟨5, .data⟩ (by simp) rfl; simpa using this
              have hd8 : b8 = true := by have := hdep ⟨8, .data⟩ (by simp) rfl; simpa using this
              have hd7 : b7 = true := (e8 hd8)
              have hd6 : b6 = true := (e7 hd7)
              have hd4 : b4 = true := (e5 hd5)
              have hd3 : b3 = true := (e4 hd4).2
              have hd2 : b2 = true := (e4 hd4).1
              subst hd2 hd3 hd4 hd5 hd6 hd7 hd8
              obtain rfl : b11 = false := Bool.eq_false_iff.2 (fun h => Bool.noConfusion (e11 h).2)
              refine wpOpIn_step rfl (fun K hK => ?_)
              clear hun hdep hi
              refine PR.stepIn_append_lies _ rfl _ _ 23 rfl 0 2 j0 (.int .i64 0) 1 8 Tryd.underlying23 hj hyy0 hyy1 hyy2 rfl (by decide) u j _ rfl (HOU.out _ (hR.low rfl)) ⟨hb, 0, none⟩ 1 1 [.int .i64 (sgnP X)] rfl rfl (news_one (hR.box rfl rfl)) (by simp [Value.oneCell']) (by decide) (by unfold maxLen; omega) (by omega) (Nat.zero_le _) ?_
              intro g2 cap w'' hown hgrow hat hgl
              refine hK _ _ ⟨b0, b1, true, true, true, true, true, true, true, true, b10, false, (.slice (some ⟨g2, 0, none⟩) (j + 1) cap), hb, ⟨fun _ => ⟨rfl, rfl⟩, fun _ => rfl, fun _ => rfl, fun _ => rfl, fun _ => ⟨rfl, rfl⟩, e10, fun h => Bool.noConfusion h⟩, rfl, rfl, hR.app_ hown hgrow hat hgl⟩
            · -- 10
              simp only [List.getElem?_toArray, List.getElem?_cons_succ, List.getElem?_cons_zero, Option.some.injEq] at ho
              subst ho
              have hbi : b10 = false := by simpa using hun
              subst hbi
              have hd0 : b0 = true := by have := hdep ⟨0, .data⟩ (by simp) rfl; simpa using this
              have hd1 : b1 = true := by have := hdep ⟨1, .data⟩ (by simp) rfl; simpa using this
              subst hd0 hd1
              obtain rfl : b11 = false := Bool.eq_false_iff.2 (fun h => Bool.noConfusion (e11 h).1)
              refine wpOpIn_step rfl (fun K hK => ?_)
              clear hun hdep hi
              go_simp
              refine hK _ _ ⟨true, true, b2, b3, b4, b5, b6, b7, b8, b9, true, false, v', hb, ⟨e4, e5, e7, e8, e9, fun _ => ⟨rfl, rfl⟩, fun h => Bool.noConfusion h⟩, rfl, rfl, hR⟩
            · -- 11
              simp only [List.getElem?_toArray, List.getElem?_cons_succ, List.getElem?_cons_zero, Option.some.injEq] at ho
              subst ho
              have hbi : b11 = false := by simpa using hun
              subst hbi
              have hd9 : b9 = true := by have := hdep ⟨9, .data⟩ (by simp) rfl; simpa using this
              have hd10 : b10 = true := by have := hdep ⟨10, .data⟩ (by simp) rfl; simpa using this
              have hd8 : b8 = true := (e9 hd9).2
              have hd7 : b7 = true := (e8 hd8)
              have hd6 : b6 = true := (e7 hd7)
              have hd5 : b5 = true := (e9 hd9).1
              have hd4 : b4 = true := (e5 hd5)
              have hd3 : b3 = true := (e4 hd4).2
              have hd2 : b2 = true := (e4 hd4).1
              have hd1 : b1 = true := (e10 hd10).2
              have hd0 : b0 = true := (e10 hd10).1
              subst hd0 hd1 hd2 hd3 hd4 hd5 hd6 hd7 hd8 hd9 hd10
              refine wpOpIn_step rfl (fun K hK => ?_)
              clear hun hdep hi
              obtain ⟨w3', w4', g2, cap, rfl, hl3', _, hgr, _, _, h6'⟩ := hR.app rfl
              simp only [cond_false] at h6'
              subst h6'
              have hbl' := (hgr.block G (by have := hl3'.size; omega) (fun e => HOV2.out G e.symm rfl)).trans (hl3'.block G hGw2)
              have t0 := (World.cell?_of_block (w := W) (a := ⟨G, k, none⟩) hbl').trans hcl2
              have t1 := (World.frozen?_of_block (w := W) (a := ⟨G, k, none⟩) hbl').trans hfz2
              clear hbl' hl3' hgr
              go_simp
              refine hK _ _ ⟨true, true, true, true, true, true, true, true, true, true, true, true, (.slice (some ⟨g2, 0, none⟩) (j + 1) cap), hb, ⟨fun _ => ⟨rfl, rfl⟩, fun _ => rfl, fun _ => rfl, fun _ => rfl, fun _ => ⟨rfl, rfl⟩, fun _ => ⟨rfl, rfl⟩, fun _ => ⟨rfl, rfl⟩⟩, rfl, rfl, hR.store_⟩
        · obtain rfl : j = N1 := by omega
          have hO1 := hO
          rw [hN1, sgX_next] at hO1
          have HO := Lib.hid hO1
          have HS := Lib.hid hS
          have HB := Lib.hid hB
          clear hO hO1 hS hB hC hV
          go_wp2_with fail
          go_roundw
          case rel => exact ⟨k + 1, vs2, by omega, by go_num, HO.out, HS.out, HB.out⟩
          case measure => simp [intOf]; omega
    · obtain rfl : k = n := by omega
      rw [sgX_all] at hO
      have HO := Lib.hid hO
      have HB := Lib.hid hB
      clear hO hB hS
      go_wp2_with fail
      go_ret2
      exact ⟨_, vs, rfl, HO.out.mono (by omega), HB.out⟩
set_option maxHeartbeats 4000000 in
theorem law_FnExactSignsOfPivot (m q : Value) (M : List (List Int)) (Q : List Int) (s : Int) (w : World) (hG : Glob w) (h1 : PM.Rows w m M) (h2 : Ints w q Q) :
    Calls Tryd.prog 10 #[.agg #[m, q], .int .i64 s] w fun e w' => e = .returned (.bool true) ∧ Below w.heap.size w w' := by
  have g1 := fun (w' : World) (h : Below w.heap.size w w') => h1.below h
  have gl := fun (w' : World) (h : Below w.heap.size w w') => hG.below h
  clear hG
  have g2 := fun (w' : World) (h : Below w.heap.size w w') => h2.below h
  have I1 := Lib.hid (rows_I64 h1)
  have I2 := Lib.hid (ints_I64 h2)
  obtain ⟨a1, c1, rfl, _⟩ := h1
  obtain ⟨a2, c2, rfl, _⟩ := h2
  by_cases hz : szP M Q 1048576 < 0
  · have e1 := szP_neg hz
    have E1 := Lib.hid e1
    clear hz e1
    go_enter Tryd.func10, Tryd.ntmps10
    go_wp2_with fail
    refine (szProblem_any _ _ M Q _ (g1 _ (by (repeat' (first | (with_reducible exact Below.refl _ _) | (with_reducible assumption) | (with_reducible refine Below.alloc ?_ ?_ _) | (with_reducible refine Below.drew ?_) | (with_reducible refine below_drewN ?_ _) | (with_reducible refine Below.setCell ?_ ?_ _) | (with_reducible refine Below.trans ?_ (Below.mono (by with_reducible assumption) ?_)) | (with_reducible exact Below.size (by with_reducible assumption)) | go_size)))) (g2 _ (by (repeat' (first | (with_reducible exact Below.refl _ _) | (with_reducible assumption) | (with_reducible refine Below.alloc ?_ ?_ _) | (with_reducible refine Below.drew ?_) | (with_reducible refine below_drewN ?_ _) | (with_reducible refine Below.setCell ?_ ?_ _) | (with_reducible refine Below.trans ?_ (Below.mono (by with_reducible assumption) ?_)) | (with_reducible exact Below.size (by with_reducible assumption)) | go_size))))).mono ?_; rw [E1.out]; rintro e w1 ⟨rfl, hb1⟩; obtain ⟨hc_hb1, hf_hb1⟩ := bcell hb1; obtain ⟨hcA_hb1, hfA_hb1⟩ := bcellG (W0 := w) hb1 (by (repeat' (first | (with_reducible exact Below.refl _ _) | (with_reducible assumption) | (with_reducible refine Below.alloc ?_ ?_ _) | (with_reducible refine Below.drew ?_) | (with_reducible refine below_drewN ?_ _) | (with_reducible refine Below.setCell ?_ ?_ _) | (with_reducible refine Below.trans ?_ (Below.mono (by with_reducible assumption) ?_)) | (with_reducible exact Below.size (by with_reducible assumption)) | go_size))); have hz_hb1 := hb1.size; (try simp at hz_hb1); (try simp only [Nat.add_one_le_iff] at hz_hb1); have hz0_hb1 : w.heap.size < w1.heap.size := (by omega)
    go_wp2_with fail
    go_ret
    refine ⟨rfl, ?_⟩
    (repeat' (first | (with_reducible exact Below.refl _ _) | (with_reducible assumption) | (with_reducible refine Below.alloc ?_ ?_ _) | (with_reducible refine Below.drew ?_) | (with_reducible refine below_drewN ?_ _) | (with_reducible refine Below.setCell ?_ ?_ _) | (with_reducible refine Below.trans ?_ (Below.mono (by with_reducible assumption) ?_)) | (with_reducible exact Below.size (by with_reducible assumption)) | go_size))
  obtain ⟨hn1, hn2⟩ := szP_fits hz
  have hle := szP_le M Q
  have HN1 := Lib.hid hn1
  have HN2 := Lib.hid hn2
  clear hn1 hn2
  have hspec := fun (m q : Value) (w : World) (h1 : PM.Rows w m M) (h2 : Ints w q Q) => specSignsOfPivot_any m q M Q s w h1 h2
  have himpl := fun (m q : Value) (w : World) (hg : Glob w) (h1 : PM.Rows w m M) (h2 : Ints w q Q) => implSignsOfPivot_any m q M Q s w hg h1 h2
  have hfine := fine_spv M Q s
  generalize spOut M Q s = o at *
  obtain ⟨O, code⟩ := o
  have HS := Lib.hid hspec
  have HI := Lib.hid himpl
  have HF : Hid (FineR O) := Lib.hid hfine
  clear hspec himpl hfine
  go_enter Tryd.func10, Tryd.ntmps10
  go_wp2_with fail
  refine (szProblem_any _ _ M Q _ (g1 _ (by (repeat' (first | (with_reducible exact Below.refl _ _) | (with_reducible assumption) | (with_reducible refine Below.alloc ?_ ?_ _) | (with_reducible refine Below.drew ?_) | (with_reducible refine below_drewN ?_ _) | (with_reducible refine Below.setCell ?_ ?_ _) | (with_reducible refine Below.trans ?_ (Below.mono (by with_reducible assumption) ?_)) | (with_reducible exact Below.size (by with_reducible assumption)) | go_size)))) (g2 _ (by (repeat' (first | (with_reducible exact Below.refl _ _) | (with_reducible assumption) | (with_reducible refine Below.alloc ?_ ?_ _) | (with_reducible refine Below.drew ?_) | (with_reducible refine below_drewN ?_ _) | (with_reducible refine Below.setCell ?_ ?_ _) | (with_reducible refine Below.trans ?_ (Below.mono (by with_reducible assumption) ?_)) | (with_reducible exact Below.size (by with_reducible assumption)) | go_size))))).mono ?_; rintro e w1 ⟨rfl, hb1⟩; obtain ⟨hc_hb1, hf_hb1⟩ := bcell hb1; obtain ⟨hcA_hb1, hfA_hb1⟩ := bcellG (W0 := w) hb1 (by (repeat' (first | (with_reducible exact Below.refl _ _) | (with_reducible assumption) | (with_reducible refine Below.alloc ?_ ?_ _) | (with_reducible refine Below.drew ?_) | (with_reducible refine below_drewN ?_ _) | (with_reducible refine Below.setCell ?_ ?_ _) | (with_reducible refine Below.trans ?_ (Below.mono (by with_reducible assumption) ?_)) | (with_reducible exact Below.size (by with_reducible assumption)) | go_size))); have hz_hb1 := hb1.size; (try simp at hz_hb1); (try simp only [Nat.add_one_le_iff] at hz_hb1); have hz0_hb1 : w.heap.size < w1.heap.size := (by omega)
  generalize szP M Q 1048576 = left at *
  have hw1 : Below w.heap.size w w1 := by (repeat' (first | (with_reducible exact Below.refl _ _) | (with_reducible assumption) | (with_reducible refine Below.alloc ?_ ?_ _) | (with_reducible refine Below.drew ?_) | (with_reducible refine below_drewN ?_ _) | (with_reducible refine Below.setCell ?_ ?_ _) | (with_reducible refine Below.trans ?_ (Below.mono (by with_reducible assumption) ?_)) | (with_reducible exact Below.size (by with_reducible assumption)) | go_size))
  go_wp2_with fail
  refine (toProblem_out _ _ M Q _ (g1 _ (by (repeat' (first | (with_reducible exact Below.refl _ _) | (with_reducible assumption) | (with_reducible refine Below.alloc ?_ ?_ _) | (with_reducible refine Below.drew ?_) | (with_reducible refine below_drewN ?_ _) | (with_reducible refine Below.setCell ?_ ?_ _) | (with_reducible refine Below.trans ?_ (Below.mono (by with_reducible assumption) ?_)) | (with_reducible exact Below.size (by with_reducible assumption)) | go_size)))) (g2 _ (by (repeat' (first | (with_reducible exact Below.refl _ _) | (with_reducible assumption) | (with_reducible refine Below.alloc ?_ ?_ _) | (with_reducible refine Below.drew ?_) | (with_reducible refine below_drewN ?_ _) | (with_reducible refine Below.setCell ?_ ?_ _) | (with_reducible refine Below.trans ?_ (Below.mono (by with_reducible assumption) ?_)) | (with_reducible exact Below.size (by with_reducible assumption)) | go_size)))) HN1.out HN2.out).mono ?_; rintro e w2 ⟨gA, gB, us2, rfl, hr2, hb2⟩; obtain ⟨hc_hb2, hf_hb2⟩ := bcell hb2; obtain ⟨hcA_hb2, hfA_hb2⟩ := bcellG (W0 := w1) hb2 (by (repeat' (first | (with_reducible exact Below.refl _ _) | (with_reducible assumption) | (with_reducible refine Below.alloc ?_ ?_ _) | (with_reducible refine Below.drew ?_) | (with_reducible refine below_drewN ?_ _) | (with_reducible refine Below.setCell ?_ ?_ _) | (with_reducible refine Below.trans ?_ (Below.mono (by with_reducible assumption) ?_)) | (with_reducible exact Below.size (by with_reducible assumption)) | go_size))); have hz_hb2 := hb2.size; (try simp at hz_hb2); (try simp only [Nat.add_one_le_iff] at hz_hb2); have hz0_hb2 : w.heap.size < w2.heap.size := (by omega)
  have R2 := Lib.hid (hr2.reads I1.out I2.out)
  clear hr2
  have hw2 : Below w.heap.size w w2 := hw1.trans (hb2.mono hw1.size)
  go_wp2_with fail
  refine (HS.out _ _ _ R2.out.1 R2.out.2).mono ?_; rintro e w3 ho3; obtain ⟨a3, c3, rfl, hr3, hb3⟩ := ho3.out; clear ho3; dsimp only at hr3; dsimp only; obtain ⟨hc_hb3, hf_hb3⟩ := bcell hb3; obtain ⟨hcA_hb3, hfA_hb3⟩ := bcellG (W0 := w2) hb3 (by (repeat' (first | (with_reducible exact Below.refl _ _) | (with_reducible assumption) | (with_reducible refine Below.alloc ?_ ?_ _) | (with_reducible refine Below.drew ?_) | (with_reducible refine below_drewN ?_ _) | (with_reducible refine Below.setCell ?_ ?_ _) | (with_reducible refine Below.trans ?_ (Below.mono (by with_reducible assumption) ?_)) | (with_reducible exact Below.size (by with_reducible assumption)) | go_size))); have hz_hb3 := hb3.size; (try simp at hz_hb3); (try simp only [Nat.add_one_le_iff] at hz_hb3); have hz0_hb3 : w.heap.size < w3.heap.size := (by omega)
  have HR3 := Lib.hid hr3
  clear hr3 R2
  have hw3 : Below w.heap.size w w3 := hw2.trans (hb3.mono hw2.size)
  go_wp2_with fail
  refine (toProblem_out _ _ M Q _ (g1 _ (by (repeat' (first | (with_reducible exact Below.refl _ _) | (with_reducible assumption) | (with_reducible refine Below.alloc ?_ ?_ _) | (with_reducible refine Below.drew ?_) | (with_reducible refine below_drewN ?_ _) | (with_reducible refine Below.setCell ?_ ?_ _) | (with_reducible refine Below.trans ?_ (Below.mono (by with_reducible assumption) ?_)) | (with_reducible exact Below.size (by with_reducible assumption)) | go_size)))) (g2 _ (by (repeat' (first | (with_reducible exact Below.refl _ _) | (with_reducible assumption) | (with_reducible refine Below.alloc ?_ ?_ _) | (with_reducible refine Below.drew ?_) | (with_reducible refine below_drewN ?_ _) | (with_reducible refine Below.setCell ?_ ?_ _) | (with_reducible refine Below.trans ?_ (Below.mono (by with_reducible assumption) ?_)) | (with_reducible exact Below.size (by with_reducible assumption)) | go_size)))) HN1.out HN2.out).mono ?_; rintro e w4 ⟨gC, gD, us4, rfl, hr4, hb4⟩; obtain ⟨hc_hb4, hf_hb4⟩ := bcell hb4; obtain ⟨hcA_hb4, hfA_hb4⟩ := bcellG (W0 := w3) hb4 (by (repeat' (first | (with_reducible exact Below.refl _ _) | (with_reducible assumption) | (with_reducible refine Below.alloc ?_ ?_ _) | (with_reducible refine Below.drew ?_) | (with_reducible refine below_drewN ?_ _) | (with_reducible refine Below.setCell ?_ ?_ _) | (with_reducible refine Below.trans ?_ (Below.mono (by with_reducible assumption) ?_)) | (with_reducible exact Below.size (by with_reducible assumption)) | go_size))); have hz_hb4 := hb4.size; (try simp at hz_hb4); (try simp only [Nat.add_one_le_iff] at hz_hb4); have hz0_hb4 : w.heap.size < w4.heap.size := (by omega)
  have HR4 := Lib.hid hr4
  clear hr4
  have hw4 : Below w.heap.size w w4 := hw3.trans (hb4.mono hw3.size)
  go_wp2_with fail
  have hr4a := HR4.out.below (w' := w4.alloc (.cells #[.slice (some ⟨gC, 0, none⟩) M.length M.length, .slice (some ⟨gD, 0, none⟩) Q.length Q.length] 31)) (B := w4.heap.size) ((Below.refl _ _).alloc (Nat.le_refl _) _) (Nat.le_refl _)
  have R4 := Lib.hid (hr4a.reads I1.out I2.out)
  clear hr4a
  refine (HI.out _ _ _ (gl _ (by (repeat' (first | (with_reducible exact Below.refl _ _) | (with_reducible assumption) | (with_reducible refine Below.alloc ?_ ?_ _) | (with_reducible refine Below.drew ?_) | (with_reducible refine below_drewN ?_ _) | (with_reducible refine Below.setCell ?_ ?_ _) | (with_reducible refine Below.trans ?_ (Below.mono (by with_reducible assumption) ?_)) | (with_reducible exact Below.size (by with_reducible assumption)) | go_size)))) R4.out.1 R4.out.2).mono ?_; rintro e w5 ho5; obtain ⟨a5, c5, rfl, hr5, hb5⟩ := ho5.out; clear ho5; dsimp only at hr5; dsimp only; obtain ⟨hc_hb5, hf_hb5⟩ := bcell hb5; obtain ⟨hcA_hb5, hfA_hb5⟩ := bcellG (W0 := w4) hb5 (by (repeat' (first | (with_reducible exact Below.refl _ _) | (with_reducible assumption) | (with_reducible refine Below.alloc ?_ ?_ _) | (with_reducible refine Below.drew ?_) | (with_reducible refine below_drewN ?_ _) | (with_reducible refine Below.setCell ?_ ?_ _) | (with_reducible refine Below.trans ?_ (Below.mono (by with_reducible assumption) ?_)) | (with_reducible exact Below.size (by with_reducible assumption)) | go_size))); have hz_hb5 := hb5.size; (try simp at hz_hb5); (try simp only [Nat.add_one_le_iff] at hz_hb5); have hz0_hb5 : w.heap.size < w5.heap.size := (by omega)
  have hz45 : w4.heap.size < w5.heap.size := by omega
  have HR5 := Lib.hid hr5
  clear hr5 R4
  have hw45 : Below w4.heap.size w4 w5 := ((Below.refl w4.heap.size w4).alloc (Nat.le_refl _) _).trans (hb5.mono (by simp))
  have x50 : w5.cell? ⟨w4.heap.size, 0, none⟩ = some (.slice (some ⟨gC, 0, none⟩) M.length M.length) := by rw [hc_hb5 _ _ (by simp)]; simp
  have x51 : w5.cell? ⟨w4.heap.size, 1, none⟩ = some (.slice (some ⟨gD, 0, none⟩) Q.length Q.length) := by rw [hc_hb5 _ _ (by simp)]; simp
  have hw13 : Below w1.heap.size w1 w3 := hb2.trans (hb3.mono hb2.size)
  have hw35 : Below w3.heap.size w3 w5 := hb4.trans (hw45.mono hb4.size)
  have hw15 : Below w1.heap.size w1 w5 := hw13.trans (hw35.mono hw13.size)
  have hw5 : Below w.heap.size w w5 := hw3.trans (hw35.mono hw3.size)
  have p10 : w1.cell? ⟨w.heap.size, 0, none⟩ = some (.slice a1 M.length c1) := by rw [hc_hb1 _ _ (by simp)]; simp
  have p11 : w1.cell? ⟨w.heap.size, 1, none⟩ = some (.slice a2 Q.length c2) := by rw [hc_hb1 _ _ (by simp)]; simp
  have hvq : Vq w5 w.heap.size w4.heap.size (.slice a1 M.length c1) (.slice a2 Q.length c2) (.slice (some ⟨gC, 0, none⟩) M.length M.length) (.slice (some ⟨gD, 0, none⟩) Q.length Q.length) :=
    ⟨(hw15.cell (p := ⟨w.heap.size, 0, none⟩) hz0_hb1).trans p10, (hw15.cell (p := ⟨w.heap.size, 1, none⟩) hz0_hb1).trans p11, x50, x51, by omega, hz45⟩
  have hA5 := HR3.out.below hw35 (Nat.le_refl _)
  have hX5 := HR4.out.below hw45 (Nat.le_refl _)
  have hG5 := HR5.out
  rw [show (w4.alloc (.cells #[.slice (some ⟨gC, 0, none⟩) M.length M.length, .slice (some ⟨gD, 0, none⟩) Q.length Q.length] 31)).heap.size = w4.heap.size + 1 by simp] at hG5
  have hPA : w.heap.size < w2.heap.size := by omega
  obtain ⟨P, hP⟩ : ∃ P, P = w.heap.size := ⟨_, rfl⟩
  obtain ⟨A0, hA0⟩ : ∃ A0, A0 = w2.heap.size := ⟨_, rfl⟩
  obtain ⟨A1, hA1⟩ : ∃ A1, A1 = w3.heap.size := ⟨_, rfl⟩
  obtain ⟨V, hV⟩ : ∃ V, V = w4.heap.size := ⟨_, rfl⟩
  have hAV : A0 ≤ A1 ∧ A1 ≤ V := by have := hb3.size; have := hb4.size; omega
  obtain ⟨hAV1, hAV2⟩ := hAV
  obtain ⟨G1, hG1⟩ : ∃ G1, G1 = w5.heap.size := ⟨_, rfl⟩
  have hGz : G1 ≤ w5.heap.size := by omega
  have hVG : V < G1 := by omega
  rw [← hP] at hvq hPA
  rw [← hA0] at hA5 hPA
  rw [← hA1] at hA5 hX5
  rw [← hV] at hX5 hG5 hvq hz45
  rw [← hG1] at hG5
  rw [← hP, ← hV]
  have hPw : P ≤ w.heap.size := by omega
  have hwP : w.heap.size ≤ P := by omega
  clear hP hA0 hA1 hV hG1 hw13 hw15 hw35 hw45 p10 p11 x50 x51 HR3 HR4 HR5 hw1 hw2 hw3 hw4 HS
  clear hc_hb1 hf_hb1 hcA_hb1 hfA_hb1 hz_hb1 hz0_hb1 hb1 hc_hb2 hf_hb2 hcA_hb2 hfA_hb2 hz_hb2 hz0_hb2 hb2 hc_hb3 hf_hb3 hcA_hb3 hfA_hb3 hz_hb3 hz0_hb3 hb3 hc_hb4 hf_hb4 hcA_hb4 hfA_hb4 hz_hb4 hz0_hb4 hb4 hc_hb5 hf_hb5 hcA_hb5 hfA_hb5 hz_hb5 hz0_hb5 hb5
  have HA5 := Lib.hid hA5
  have HX5 := Lib.hid hX5
  have HG5 := Lib.hid hG5
  have HV5 := Lib.hid hvq
  clear hA5 hX5 hG5 hvq
  go_wp2_with fail
  refine (eqR_ans HG5.out HA5.out HF.out).mono ?_; rintro e w6 ⟨rfl, hb6⟩
  have hw6 : Below w.heap.size w w6 := hw5.trans (hb6.mono hw5.size)
  have hz6 := hb6.size
  have HA := Lib.hid (HA5.out.below hb6 (by omega))
  have HX := Lib.hid (HX5.out.below hb6 (by omega))
  have HG := Lib.hid (HG5.out.below hb6 (by omega))
  have hv6 := HV5.out.next hb6
  have HV := Lib.hid hv6
  have hGz6 : G1 ≤ w6.heap.size := by omega
  have RX := Lib.hid (HX.out.reads I1.out I2.out)
  obtain ⟨k1, k2, k3, k4, l1, l2⟩ := hv6
  have r1 : ∀ w', Below w6.heap.size w6 w' → w'.cell? ⟨P, 0, none⟩ = some (.slice a1 M.length c1) := fun w' h => (h.cell (p := ⟨P, 0, none⟩) (by show P < _; omega)).trans k1
  have r2 : ∀ w', Below w6.heap.size w6 w' → w'.cell? ⟨P, 1, none⟩ = some (.slice a2 Q.length c2) := fun w' h => (h.cell (p := ⟨P, 1, none⟩) (by show P < _; omega)).trans k2
  have r3 : ∀ w', Below w6.heap.size w6 w' → w'.cell? ⟨V, 0, none⟩ = some (.slice (some ⟨gC, 0, none⟩) M.length M.length) := fun w' h => (h.cell (p := ⟨V, 0, none⟩) (by show V < _; omega)).trans k3
  have r4 : ∀ w', Below w6.heap.size w6 w' → w'.cell? ⟨V, 1, none⟩ = some (.slice (some ⟨gD, 0, none⟩) Q.length Q.length) := fun w' h => (h.cell (p := ⟨V, 1, none⟩) (by show V < _; omega)).trans k4
  clear HA5 HX5 HG5 HV5 hb6 hw5 hGz hz6 k1 k2 k3 k4 hz45
  go_wp2_with fail
  go_region_held3 (fun w' => Below w6.heap.size w6 w') ((repeat' (first | (with_reducible exact Below.refl _ _) | (with_reducible assumption) | (with_reducible refine Below.alloc ?_ ?_ _) | (with_reducible refine Below.drew ?_) | (with_reducible refine below_drewN ?_ _) | (with_reducible refine Below.setCell ?_ ?_ _) | (with_reducible refine Below.trans ?_ (Below.mono (by with_reducible assumption) ?_)) | (with_reducible exact Below.size (by with_reducible assumption)) | go_size)))
    (first | (go_at_call 13; refine (toProblem_out _ _ M Q _ (g1 _ (hw6.trans (Below.mono (by assumption) hw6.size))) (g2 _ (hw6.trans (Below.mono (by assumption) hw6.size))) HN1.out HN2.out).mono ?_; rintro e w8 ⟨gE, gF, us8, rfl, hr8, hb8⟩; have hS8 : Below w6.heap.size w6 w8 := (by (repeat' (first | (with_reducible exact Below.refl _ _) | (with_reducible assumption) | (with_reducible refine Below.alloc ?_ ?_ _) | (with_reducible refine Below.drew ?_) | (with_reducible refine below_drewN ?_ _) | (with_reducible refine Below.setCell ?_ ?_ _) | (with_reducible refine Below.trans ?_ (Below.mono (by with_reducible assumption) ?_)) | (with_reducible exact Below.size (by with_reducible assumption)) | go_size))); have R8 := Lib.hid (hr8.reads I1.out I2.out); clear hr8) | (go_at_call 16; refine (eqProblem_same _ _ _ _ M Q _ (RX.out.1.below hS8) (RX.out.2.below hS8) R8.out.1 R8.out.2).mono ?_; rintro e w9 ⟨rfl, hb9⟩; have hS9 : Below w6.heap.size w6 w9 := (by (repeat' (first | (with_reducible exact Below.refl _ _) | (with_reducible assumption) | (with_reducible refine Below.alloc ?_ ?_ _) | (with_reducible refine Below.drew ?_) | (with_reducible refine below_drewN ?_ _) | (with_reducible refine Below.setCell ?_ ?_ _) | (with_reducible refine Below.trans ?_ (Below.mono (by with_reducible assumption) ?_)) | (with_reducible exact Below.size (by with_reducible assumption)) | go_size)))))
  have x90 := r3 _ hS9
  have x91 := r4 _ hS9
  have hw9 : Below w.heap.size w w9 := hw6.trans (hS9.mono hw6.size)
  have hz9 := hS9.size
  have HX9 := Lib.hid (HX.out.below hS9 (by omega))
  have HG9 := Lib.hid (HG.out.below hS9 (by omega))
  have HA9 := Lib.hid (HA.out.below hS9 (by omega))
  have HV9 := Lib.hid (HV.out.next hS9)
  have hGz9 : G1 ≤ w9.heap.size := by omega
  have lP9 : P < w9.heap.size := by omega
  have lV9 : V < w9.heap.size := by omega
  clear HX HG HA HV RX R8 r1 r2 r3 r4 hS9 hb9 hS8 hb8 hw6 hGz6 hz9 l1 l2
  have hkb : (1 : Int) + tot M + Q.length ≤ 4611686018427387904 := by have := HN1.out; have := HN2.out; omega
  have hc10 := markProblem_any A1 V _ _ M Q us4 1 _ HX9.out (by omega) (by decide) hkb
  generalize pre M M.length = pM at hc10
  have hp0 : 0 ≤ (1 : Int) + pM + Q.length := by omega
  have HC10 := Lib.hid hc10
  clear hc10 hkb
  go_wp2_with fail
  refine HC10.out.mono ?_; rintro e w10 ⟨rfl, _, hbt10⟩
  have hsz10 := hbt10.size
  have v10 := HV9.out.bet hbt10 (.inl (by omega)) (.inr (by omega))
  have hw10 : Below w.heap.size w w10 := hw9.trans ((hbt10.below (by omega)).mono (by omega))
  have HG10 := Lib.hid (HG9.out.bet hbt10 (.inr (by omega)))
  have HA10 := Lib.hid (HA9.out.bet hbt10 (.inl (by omega)))
  have HV10 := Lib.hid v10
  have hGz10 : G1 ≤ w10.heap.size := by omega
  clear HC10 HX9 HV9 HG9 HA9 v10 hbt10 hw9 x90 x91 hGz9 hsz10 lP9 lV9
  go_wp2_with fail
  refine (eqR_ans HG10.out HA10.out HF.out).mono ?_; rintro e w11 ⟨rfl, hb11⟩
  have hsz11 := hb11.size
  have hw11 : Below w.heap.size w w11 := hw10.trans (hb11.mono hw10.size)
  have HG11 := Lib.hid (HG10.out.below hb11 (by omega))
  have HA11 := Lib.hid (HA10.out.below hb11 (by omega))
  have HV11 := Lib.hid (HV10.out.next hb11)
  have hGz11 : G1 ≤ w11.heap.size := by omega
  clear HG10 HA10 HV10 hb11 hw10 hGz10 hsz11
  have hsl := sizeR_le HF.out
  generalize hsg : sizeR O = sz at hsl
  have HSG := Lib.hid hsg
  clear hsg
  go_wp2_with fail
  refine (markR_ans HG11.out HF.out).mono ?_; rw [HSG.out]; rintro e w12 ⟨rfl, hm12, hbt12⟩
  have hsz12 := hbt12.size
  have hVz := HV11.out.lV
  have hPz := HV11.out.lP
  have hw12 : Below w.heap.size w w12 := hw11.trans ((hbt12.below (by omega)).mono (by omega))
  have HA12 := Lib.hid (HA11.out.bet hbt12 (.inl (by omega)))
  have HV12 := Lib.hid (HV11.out.bet hbt12 (.inl (by omega)) (.inl (by omega)))
  have HM12 := Lib.hid hm12
  have hGz12 : G1 ≤ w12.heap.size := by omega
  clear HG11 HA11 HV11 hm12 hbt12 hw11 hGz11 hsz12 hVz hPz
  go_wp2_with fail
  refine (heldR_ans HM12.out HF.out).mono ?_; rw [HSG.out]; rintro e w13 ⟨rfl, hb13⟩
  have hsz13 := hb13.size
  have hw13 : Below w.heap.size w w13 := hw12.trans (hb13.mono hw12.size)
  have HM13 := Lib.hid (HM12.out.below hb13 (by omega))
  have HA13 := Lib.hid (HA12.out.below hb13 (by omega))
  have v13 := HV12.out.next hb13
  have HV13 := Lib.hid v13
  obtain ⟨q1, q2, q3, q4, l1, l2⟩ := v13
  have hGz13 : G1 ≤ w13.heap.size := by omega
  clear HM12 HA12 HV12 hb13 hw12 hGz12 hsz13 q3 q4 l1 l2
  go_wp2_with fail
  refine (toProblem_out _ _ M Q _ (g1 _ hw13) (g2 _ hw13) HN1.out HN2.out).mono ?_; rintro e w14 ⟨gE, gF, us14, rfl, hr14, hb14⟩
  have hsz14 := hb14.size
  have hw14 : Below w.heap.size w w14 := hw13.trans (hb14.mono hw13.size)
  have R14 := Lib.hid (hr14.reads I1.out I2.out)
  have HM14 := Lib.hid (HM13.out.below hb14 (by omega))
  have HA14 := Lib.hid (HA13.out.below hb14 (by omega))
  have hGz14 : G1 ≤ w14.heap.size := by omega
  clear hr14 HV13 HM13 HA13 hb14 hw13 hGz13 hsz14 q1 q2
  go_wp2_with fail
  refine (HI.out _ _ _ (gl _ (by (repeat' (first | (with_reducible exact Below.refl _ _) | (with_reducible assumption) | (with_reducible refine Below.alloc ?_ ?_ _) | (with_reducible refine Below.drew ?_) | (with_reducible refine below_drewN ?_ _) | (with_reducible refine Below.setCell ?_ ?_ _) | (with_reducible refine Below.trans ?_ (Below.mono (by with_reducible assumption) ?_)) | (with_reducible exact Below.size (by with_reducible assumption)) | go_size)))) R14.out.1 R14.out.2).mono ?_; rintro e w15 ho15; obtain ⟨a15, c15, rfl, hr15, hb15⟩ := ho15.out; clear ho15; dsimp only at hr15; dsimp only
  have hsz15 := hb15.size
  have hw15 : Below w.heap.size w w15 := hw14.trans (hb15.mono hw14.size)
  have HM15 := Lib.hid (HM14.out.below hb15 (by omega))
  have HA15 := Lib.hid (HA14.out.below hb15 (by omega))
  have HH15 := Lib.hid hr15
  have hGz15 : G1 ≤ w15.heap.size := by omega
  clear hr15 HM14 HA14 hb15 hw14 hGz14 hsz15 R14
  go_wp2_with fail
  refine (eqR_ans HH15.out HA15.out HF.out).mono ?_; rintro e w16 ⟨rfl, hb16⟩
  have hw16 : Below w.heap.size w w16 := hw15.trans (hb16.mono hw15.size)
  have HM16 := Lib.hid (HM15.out.below hb16 (by omega))
  clear HM15 HA15 HH15 hb16 hw15
  go_wp2_with fail
  refine (heldR_ans HM16.out HF.out).mono ?_; rw [HSG.out]; rintro e w17 ⟨rfl, hb17⟩
  have hw17 : Below w.heap.size w w17 := hw16.trans (hb17.mono hw16.size)
  go_wp2_with fail
  go_ret
  exact ⟨rfl, hw17⟩
end Go.Proofs.YthnefjllijoobaaDoor.PW
