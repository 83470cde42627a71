/-
  Walks: copies by append, in the model and in the program.
-/
import Derived.Test.YtkdgnegnndedaaaPWalkM
import Derived.Test.YtkdgnegnndedaaaPWalkE
import Derived.OwnWalk
namespace Go.Proofs.Ytkdgnegnndedaaa.PW
open Go.RowKit Go.Proofs.Ytkdgnegnndedaaa
open Go.Proofs.Ytkdgnegnndedaaa.PM

/-- v is a slice of the numbers xs in a block of its own from B on. -/
def FreshI (B : Nat) (w : World) (v : Value) (xs : List Int) : Prop :=
  ∃ g cap, v = .slice (some ⟨g, 0, none⟩) xs.length cap ∧ B ≤ g ∧ g < w.heap.size ∧ OwnI w v xs

theorem fresh_of_row {B : Nat} {w : World} {v : Value} {xs : List Int} (h : w.ownsRow B 2 1 v xs.length (xs.map (Value.int .i64))) (hne : v ≠ .slice none 0 0) : FreshI B w v xs := by
  have h1 : OwnI w v xs := by
    refine ⟨h.1, ?_⟩
    rcases h.2 with h2 | ⟨g, cap, cur, hv, hb, r⟩
    · exact .inl h2
    · exact .inr ⟨g, cap, cur, hv, Nat.zero_le _, r⟩
  rcases h.2 with ⟨hv, _⟩ | ⟨g, cap, cur, hv, hb, hg, r⟩
  · exact absurd hv hne
  · refine ⟨g, cap, hv, hb, ?_, h1⟩
    rcases Nat.lt_or_ge g w.heap.size with h' | h'
    · exact h'
    · rw [Array.getElem?_eq_none h'] at hg; cases hg

theorem news_at {w : World} {b off : Nat} {xs : List Int} (h : CellsAt w b off xs) : ∀ j u, (xs.map (Value.int .i64))[j]? = some u → w.cell? ((⟨b, off, none⟩ : Addr).add j) = some u := by
  intro j u hu
  have hj : j < xs.length := by
    rcases Nat.lt_or_ge j xs.length with h' | h'
    · exact h'
    · rw [List.getElem?_eq_none (by simpa using h')] at hu; cases hu
  have e : (⟨b, off, none⟩ : Addr).add j = ⟨b, off + j, none⟩ := by
    unfold Addr.add
    by_cases h0 : j = 0
    · subst h0; simp
    · simp [h0]
  rw [e, h j hj]
  simp [hj] at hu
  simp [hj, hu]

theorem l01Own_any (v : Value) (xs : List Int) (w : World) (hv : Ints w v xs) (h0 : xs ≠ []) (hn : xs.length ≤ 1048576) :
    Calls Try.prog 110 #[v] w fun e w' => ∃ u, e = .returned u ∧ FreshI w.heap.size w' u xs ∧ Below w.heap.size w w' := by
  obtain ⟨a, cap, rfl, _, _, _, hx⟩ := hv
  rcases hx with hx | ⟨b, off, rfl, hlt, hcell⟩
  · exact absurd hx h0
  obtain ⟨i0, hi, hz0, hz1, hz2⟩ := info_parts info_int
  have HC := Lib.hid hcell
  clear hcell
  go_enter Try.func110, Try.ntmps110
  go_wp2_with (at_builtin; refine wpList_append_own _ rfl _ _ 23 rfl w.heap.size 2 i0 (.int .i64 0) 1 8 Try.underlying23 hi hz0 hz1 hz2 rfl (by decide) _ _ _ rfl (World.ownsRow_made w #[] 0 (Nat.le_refl _) (Nat.zero_le _) rfl) ⟨b, off, none⟩ xs.length cap (xs.map (Value.int .i64)) rfl ?c0 ?c1 ?c2 ?c3 ?c4 ?c5 ?_)
  case c0 => simp
  case c1 =>
    intro j u hj
    have h2 : ∀ i, i < xs.length → (w.alloc (.cells #[] 2)).cell? ⟨b, off + i, none⟩ = some (.int .i64 (xs.getD i 0)) := fun i hi => (World.cell?_alloc_lt w _ ⟨b, off + i, none⟩ hlt).trans (HC.out i hi)
    exact news_at (w := w.alloc (.cells #[] 2)) h2 j u hj
  case c2 => intro u hu; simp at hu; obtain ⟨x, _, rfl⟩ := hu; rfl
  case c3 => unfold maxLen; omega
  case c4 => omega
  case c5 => simp
  intro v' w1 hown hgrow hnil
  go_wp2_with fail
  go_ret
  have hne : v' ≠ .slice none 0 0 := fun c => by simp [c] at hnil
  (try simp only [List.nil_append, Nat.zero_add] at hown)
  refine ⟨v', rfl, fresh_of_row hown hne, ?_⟩
  exact ((Below.refl _ _).alloc (Nat.le_refl _) _).grown hgrow (by simp) (fun k hk => by simp [Value.ownBlock] at hk; omega)
theorem clone_any (v : Value) (xs : List Int) (w : World) (hv : Ints w v xs) (h0 : xs ≠ []) (hn : xs.length ≤ 1048576) :
    Calls Try.prog 114 #[v] w fun e w' => ∃ u, e = .returned u ∧ FreshI w.heap.size w' u xs ∧ Below w.heap.size w w' := by
  obtain ⟨a, cap, rfl, _, _, _, hx⟩ := hv
  rcases hx with hx | ⟨b, off, rfl, hlt, hcell⟩
  · exact absurd hx h0
  obtain ⟨i0, hi, hz0, hz1, hz2⟩ := info_parts info_int
  have HC := Lib.hid hcell
  clear hcell
  have hnl := fun (W : World) => Lib.run_eql_slice_nil (P := Try.prog) (w := W) 23
  go_enter Try.func114, Try.ntmps114
  go_wp2_with (at_builtin; refine wpList_append_own _ rfl _ _ 23 rfl w.heap.size 2 i0 (.int .i64 0) 1 8 Try.underlying23 hi hz0 hz1 hz2 rfl (by decide) _ _ _ rfl (World.ownsRow_made w #[] 0 (Nat.le_refl _) (Nat.zero_le _) rfl) ⟨b, off, none⟩ xs.length cap (xs.map (Value.int .i64)) rfl ?c0 ?c1 ?c2 ?c3 ?c4 ?c5 ?_)
  case c0 => simp
  case c1 =>
    intro j u hj
    have h2 : ∀ i, i < xs.length → (w.alloc (.cells #[] 2)).cell? ⟨b, off + i, none⟩ = some (.int .i64 (xs.getD i 0)) := fun i hi => (World.cell?_alloc_lt w _ ⟨b, off + i, none⟩ hlt).trans (HC.out i hi)
    exact news_at (w := w.alloc (.cells #[] 2)) h2 j u hj
  case c2 => intro u hu; simp at hu; obtain ⟨x, _, rfl⟩ := hu; rfl
  case c3 => unfold maxLen; omega
  case c4 => omega
  case c5 => simp
  intro v' w1 hown hgrow hnil
  go_wp2_with fail
  go_ret
  have hne : v' ≠ .slice none 0 0 := fun c => by simp [c] at hnil
  (try simp only [List.nil_append, Nat.zero_add] at hown)
  refine ⟨v', rfl, fresh_of_row hown hne, ?_⟩
  exact ((Below.refl _ _).alloc (Nat.le_refl _) _).grown hgrow (by simp) (fun k hk => by simp [Value.ownBlock] at hk; omega)

/-- A call's own rows, all in blocks from B on. -/
structure FreshR (B : Nat) (w : World) (v : Value) (xss : List (List Int)) (us : List Value) : Prop where
  own : OwnR w v xss us
  top : ∃ g cap, v = .slice (some ⟨g, 0, none⟩) xss.length cap ∧ B ≤ g ∧ g < w.heap.size
  rows : ∀ i b, i < xss.length → (us.getD i undef).ownBlock = some b → B ≤ b ∧ b < w.heap.size

theorem FreshI.below {B : Nat} {w w' : World} {v : Value} {xs : List Int} (h : FreshI B w v xs) (hb : Below w.heap.size w w') : FreshI B w' v xs := by
  obtain ⟨g, cap, hv, hB, hlt, ho⟩ := h
  exact ⟨g, cap, hv, hB, Nat.lt_of_lt_of_le hlt hb.size, ho.below hb (fun b hb' => by rw [hv] at hb'; simp [Value.ownBlock] at hb'; omega)⟩

/-- The first k rows are copied. -/
structure CpR (w wr : World) (xss : List (List Int)) (k : Nat) (us : List Value) : Prop where
  len : us.length = k
  below : Below w.heap.size w wr
  lt : w.heap.size < wr.heap.size
  top : wr.rowIs w.heap.size 23 xss.length (fun j => if j < k then us.getD j undef else .slice none 0 0)
  rows : ∀ j, j < k → FreshI (w.heap.size + 1) wr (us.getD j undef) (xss.getD j [])
  apart : ∀ i j b, i < k → j < k → (us.getD i undef).ownBlock = some b → (us.getD j undef).ownBlock = some b → i = j

theorem cpR_start (w : World) (xss : List (List Int)) : CpR w (w.alloc (.cells (madeCells #[.slice none 0 0] xss.length) 23)) xss 0 [] :=
  ⟨rfl, (Below.refl _ _).alloc (Nat.le_refl _) _, by simp, (World.rowIs_made w _ _ _).congr (fun i _ => by simp), fun j hj => absurd hj (Nat.not_lt_zero _), fun i j b hi => absurd hi (Nat.not_lt_zero _)⟩
theorem getD_snoc_lt (us : List Value) (u : Value) (j : Nat) (h : j < us.length) : (us ++ [u]).getD j undef = us.getD j undef := by simp [h, List.getElem?_append_left h]
theorem getD_snoc_eq (us : List Value) (u : Value) : (us ++ [u]).getD us.length undef = u := by simp
theorem cpR_step {w wr w2 : World} {xss : List (List Int)} {k : Nat} {us : List Value} {u : Value} (h : CpR w wr xss k us) (hu : FreshI wr.heap.size w2 u (xss.getD k [])) (hb : Below wr.heap.size wr w2) :
    CpR w (w2.setCell ⟨w.heap.size, k, none⟩ u) xss (k + 1) (us ++ [u]) := by
  have hl := h.len
  have hlt := h.lt
  have hB : Below w.heap.size w w2 := h.below.trans (hb.mono h.below.size)
  have htop := h.top.of_block (hb.block _ hlt)
  have hnew : ∀ v xs (B : Nat), FreshI B w2 v xs → w.heap.size + 1 ≤ B → FreshI (w.heap.size + 1) (w2.setCell ⟨w.heap.size, k, none⟩ u) v xs := by
    intro v xs B hf hBB
    obtain ⟨g, cap, hv, hg, hlt2, ho⟩ := hf
    refine ⟨g, cap, hv, by omega, by simpa using hlt2, ho.tch ((Tch.refl [w.heap.size] w2).setCell (by simp) u) (fun b hb' => ?_)⟩
    rw [hv] at hb'
    simp [Value.ownBlock] at hb'
    simp
    omega
  refine ⟨by simp [hl], hB.setCell (Nat.le_refl _) _, by simp; have := hb.size; omega, (htop.set k _).congr (fun j _ => ?_), fun j hj => ?_, fun i j b hi hj h1 h2 => ?_⟩
  · by_cases e : j = k
    · subst e
      rw [if_pos rfl, if_pos (by omega), ← hl, getD_snoc_eq]
    · rw [if_neg e]
      by_cases hjk : j < k
      · rw [if_pos hjk, if_pos (by omega), getD_snoc_lt _ _ _ (by omega)]
      · rw [if_neg hjk, if_neg (by omega)]
  · by_cases e : j = k
    · subst e
      rw [show (us ++ [u]).getD j undef = u from by rw [← hl, getD_snoc_eq]]
      exact hnew _ _ _ hu (by omega)
    · rw [getD_snoc_lt _ _ _ (by omega)]
      exact hnew _ _ (w.heap.size + 1) ((h.rows j (by omega)).below hb) (Nat.le_refl _)
  · obtain ⟨g, cap, hv, hg, _, _⟩ := hu
    have hub : ∀ i, i < k → ∀ b, (us.getD i undef).ownBlock = some b → b < wr.heap.size := fun i hi b hb' => by
      obtain ⟨g', cap', hv', _, hlt', _⟩ := h.rows i hi
      rw [hv'] at hb'
      simp [Value.ownBlock] at hb'
      omega
    have huk : u.ownBlock = some g := by rw [hv]; rfl
    by_cases ei : i = k
    · by_cases ej : j = k
      · omega
      · rw [getD_snoc_lt _ _ _ (by omega)] at h2
        rw [show (us ++ [u]).getD i undef = u from by rw [ei, ← hl, getD_snoc_eq], huk] at h1
        have := hub j (by omega) b h2
        simp at h1
        omega
    · rw [getD_snoc_lt _ _ _ (by omega)] at h1
      by_cases ej : j = k
      · rw [show (us ++ [u]).getD j undef = u from by rw [ej, ← hl, getD_snoc_eq], huk] at h2
        have := hub i (by omega) b h1
        simp at h2
        omega
      · rw [getD_snoc_lt _ _ _ (by omega)] at h2
        exact h.apart i j b (by omega) (by omega) h1 h2
theorem cpR_end {w wr : World} {xss : List (List Int)} {us : List Value} (h : CpR w wr xss xss.length us) (hm : xss.length ≤ maxLen) : FreshR w.heap.size wr (.slice (some ⟨w.heap.size, 0, none⟩) xss.length xss.length) xss us := by
  have hl := h.len
  have hbk : ∀ i b, i < xss.length → (us.getD i undef).ownBlock = some b → w.heap.size + 1 ≤ b ∧ b < wr.heap.size := fun i b hi hb' => by
    obtain ⟨g', cap', hv', h1, hlt', _⟩ := h.rows i hi
    rw [hv'] at hb'
    simp [Value.ownBlock] at hb'
    omega
  refine ⟨⟨hl, ?_, fun i hi => ?_, h.apart, fun i b hi hv hb' => ?_⟩, ⟨_, _, rfl, Nat.le_refl _, h.lt⟩, fun i b hi hb' => ?_⟩
  · obtain ⟨c, hb, hn, hc⟩ := h.top
    refine ⟨by simp [hl], .inr ⟨w.heap.size, xss.length, c, rfl, Nat.zero_le _, hb, Nat.le_refl _, hm, by simpa using hn, ?_⟩⟩
    rw [Nat.mul_one, List.take_of_length_le (by simp [hn])]
    apply List.ext_getElem?
    intro i
    by_cases hi : i < xss.length
    · have := hc i hi
      rw [Array.getElem?_toList, this]
      simp [hl, hi]
    · rw [List.getElem?_eq_none (by simp [hn]; omega), List.getElem?_eq_none (by omega)]
  · obtain ⟨_, _, _, _, _, ho⟩ := h.rows i hi
    exact ho
  · have := hbk i b hi hb'
    simp [Value.ownBlock] at hv
    omega
  · have := hbk i b hi hb'
    omega

theorem copyRows_any (v : Value) (xss : List (List Int)) (w : World) (hv : PM.Rows w v xss) (h0 : xss ≠ []) (hne : ∀ i, i < xss.length → xss.getD i [] ≠ []) (hn : tot xss ≤ 1048576) :
    Calls Try.prog 113 #[v] w fun e w' => ∃ us, e = .returned (.slice (some ⟨w.heap.size, 0, none⟩) xss.length xss.length) ∧ FreshR w.heap.size w' (.slice (some ⟨w.heap.size, 0, none⟩) xss.length xss.length) xss us ∧ Below w.heap.size w w' := by
  have hnl : xss.length ≤ 1048576 := by unfold tot at hn; omega
  have HN := Lib.hid hn
  have HE := Lib.hid hne
  clear hn hne
  obtain ⟨a, cap, rfl, _, _, hx⟩ := hv
  rcases hx with hx | ⟨b, off, rfl, hlt, hcell⟩
  · exact absurd hx h0
  have HC := Lib.hid hcell
  clear hcell h0
  have hmk := run_make_row' (P := Try.prog) 22 23 (.slice none 0 0) 24 Try.underlying22 info_ints rfl .i64 .i64 xss.length (by omega) (by omega)
  go_enter Try.func113, Try.ntmps113
  go_wp2
  go_loopw [4, 5, 11] (fun _ _ i wr => ∃ (k : Nat) (us : List Value), k ≤ xss.length ∧ i = .int .i64 k ∧ CpR w wr xss k us) (fun _ _ i _ => xss.length - (intOf i).toNat)
  case atStart => exact ⟨0, [], Nat.zero_le _, rfl, cpR_start w xss⟩
  case round =>
    obtain ⟨k, us, hk, rfl, hcp⟩ := hrel
    by_cases hlt2 : k < xss.length
    · obtain ⟨u, hu0, hI0⟩ := HC.out k hlt2
      have hu := (hcp.below.cell (p := ⟨b, off + k, none⟩) hlt).trans hu0
      have hI := hI0.below (w' := wr) hcp.below
      have hv := hcp.top.cell hlt2
      have hf := hcp.top.frozen k
      have hlt0 := hcp.lt
      have hnek := HE.out k hlt2
      have hrl : (xss.getD k []).length ≤ 1048576 := by
        have h1 := pre_succ xss k hlt2
        have h2 := pre_le xss (k + 1)
        have h3 := HN.out
        unfold tot at h3
        omega
      have hst := fun (w2 : World) (u2 : Value) h1 h2 => cpR_step (w2 := w2) (u := u2) hcp h1 h2
      have HST := Lib.hid hst
      clear hst hcp hI0 hu0
      generalize xss.getD k [] = r at *
      generalize (if k < k then us.getD k undef else Value.slice none 0 0) = pv at *
      obtain ⟨ra, rc, hsh, _⟩ := id hI
      rw [hsh] at hu
      have HI := Lib.hid hI
      have HSH := Lib.hid hsh
      clear hI hsh
      go_wp2_with fail
      rw [← HSH.out]
      refine (clone_any _ _ _ HI.out hnek hrl).mono ?_
      rintro e w2 ⟨u2, rfl, hfu, hb2⟩
      have hv2 := (hb2.cell (p := ⟨w.heap.size, k, none⟩) hlt0).trans hv
      have hf2 := (hb2.frozen (p := ⟨w.heap.size, k, none⟩) hlt0).trans hf
      have hst := HST.out w2 u2 hfu hb2
      obtain ⟨g2, cap2, hsh2, _⟩ := hfu
      rw [hsh2] at hst ⊢
      clear hsh2 hv hf hu hb2 hrl
      go_wp2_with fail
      go_roundw
      case rel => exact ⟨k + 1, _, by omega, by go_num, hst⟩
      case measure => simp [intOf]; omega
    · obtain rfl : k = xss.length := by omega
      have hend := cpR_end hcp (by unfold maxLen; omega)
      have HEND := Lib.hid hend
      clear hend
      go_wp2
      go_ret
      exact ⟨us, rfl, HEND.out, hcp.below⟩

/-- A problem in memory of the call's own, all in blocks from B on. -/
structure FreshP (B : Nat) (w : World) (m q : Value) (M : List (List Int)) (Q : List Int) (us : List Value) : Prop where
  rows : FreshR B w m M us
  right : FreshI B w q Q
  apart : ∀ b, q.ownBlock = some b → m.ownBlock ≠ some b ∧ ∀ i, i < M.length → (us.getD i undef).ownBlock ≠ some b

theorem FreshR.below {B : Nat} {w w' : World} {v : Value} {xss : List (List Int)} {us : List Value} (h : FreshR B w v xss us) (hb : Below w.heap.size w w') : FreshR B w' v xss us := by
  obtain ⟨⟨h1, h2, h3, h4, h5⟩, ⟨g, cap, hv, hB, hlt⟩, h6⟩ := h
  refine ⟨⟨h1, ?_, fun i hi => (h3 i hi).below hb (fun b hb' => (h6 i b hi hb').2), h4, h5⟩, ⟨g, cap, hv, hB, Nat.lt_of_lt_of_le hlt hb.size⟩, fun i b hi hb' => ⟨(h6 i b hi hb').1, Nat.lt_of_lt_of_le (h6 i b hi hb').2 hb.size⟩⟩
  refine ⟨h2.1, ?_⟩
  rcases h2.2 with h | ⟨g', cap', cur, hv', hb0, hg, r⟩
  · exact .inl h
  · rw [hv] at hv'
    simp only [Value.slice.injEq, Option.some.injEq, Addr.mk.injEq, and_true, true_and] at hv'
    obtain ⟨rfl, rfl⟩ := hv'
    exact .inr ⟨g, cap, cur, hv, hb0, by rw [hb.block g hlt]; exact hg, r⟩
theorem FreshI.mono {B C : Nat} {w : World} {v : Value} {xs : List Int} (h : FreshI B w v xs) (hC : C ≤ B) : FreshI C w v xs := by
  obtain ⟨g, cap, hv, hB, r⟩ := h
  exact ⟨g, cap, hv, by omega, r⟩
theorem FreshR.mono {B C : Nat} {w : World} {v : Value} {xss : List (List Int)} {us : List Value} (h : FreshR B w v xss us) (hC : C ≤ B) : FreshR C w v xss us := by
  obtain ⟨h1, ⟨g, cap, hv, hB, r⟩, h6⟩ := h
  exact ⟨h1, ⟨g, cap, hv, by omega, r⟩, fun i b hi hb' => ⟨by have := (h6 i b hi hb').1; omega, (h6 i b hi hb').2⟩⟩
theorem FreshP.below {B : Nat} {w w' : World} {m q : Value} {M : List (List Int)} {Q : List Int} {us : List Value} (h : FreshP B w m q M Q us) (hb : Below w.heap.size w w') : FreshP B w' m q M Q us :=
  ⟨h.rows.below hb, h.right.below hb, h.apart⟩
/-- Rows first, then the right side. -/
theorem freshP_of {B : Nat} {w1 w2 : World} {m q : Value} {M : List (List Int)} {Q : List Int} {us : List Value} (h1 : FreshR B w1 m M us) (h2 : FreshI w1.heap.size w2 q Q) (hB : B ≤ w1.heap.size) (hb : Below w1.heap.size w1 w2) : FreshP B w2 m q M Q us := by
  refine ⟨h1.below hb, h2.mono hB, fun b hq => ?_⟩
  obtain ⟨g, cap, hv, hg, _, _⟩ := h2
  rw [hv] at hq
  simp [Value.ownBlock] at hq
  obtain ⟨g2, cap2, hv2, _, hlt2⟩ := h1.top
  refine ⟨fun c => ?_, fun i hi c => ?_⟩
  · rw [hv2] at c; simp [Value.ownBlock] at c; omega
  · have := (h1.rows i b hi c).2; omega

theorem FreshI.tch {B : Nat} {bs : List Nat} {w w' : World} {v : Value} {xs : List Int} (h : FreshI B w v xs) (ht : Tch bs w w') (hd : ∀ b, b ∈ bs → b < B) : FreshI B w' v xs := by
  obtain ⟨g, cap, hv, hB, hlt, ho⟩ := h
  refine ⟨g, cap, hv, hB, by rw [ht.size]; exact hlt, ho.tch ht (fun b hb c => ?_)⟩
  rw [hv] at hb
  simp [Value.ownBlock] at hb
  have := hd b c
  omega
theorem FreshR.tch {B : Nat} {bs : List Nat} {w w' : World} {v : Value} {xss : List (List Int)} {us : List Value} (h : FreshR B w v xss us) (ht : Tch bs w w') (hd : ∀ b, b ∈ bs → b < B) : FreshR B w' v xss us := by
  obtain ⟨⟨h1, h2, h3, h4, h5⟩, ⟨g, cap, hv, hB, hlt⟩, h6⟩ := h
  refine ⟨⟨h1, ?_, fun i hi => (h3 i hi).tch ht (fun b hb' c => by have := (h6 i b hi hb').1; have := hd b c; omega), h4, h5⟩, ⟨g, cap, hv, hB, by rw [ht.size]; exact hlt⟩, fun i b hi hb' => ⟨(h6 i b hi hb').1, by rw [ht.size]; exact (h6 i b hi hb').2⟩⟩
  refine ⟨h2.1, ?_⟩
  rcases h2.2 with h | ⟨g', cap', cur, hv', hb0, hg, r⟩
  · exact .inl h
  · rw [hv] at hv'
    simp only [Value.slice.injEq, Option.some.injEq, Addr.mk.injEq, and_true, true_and] at hv'
    obtain ⟨rfl, rfl⟩ := hv'
    exact .inr ⟨g, cap, cur, hv, hb0, by rw [ht.block g (fun c => by have := hd g c; omega)]; exact hg, r⟩
theorem FreshP.tch {B : Nat} {bs : List Nat} {w w' : World} {m q : Value} {M : List (List Int)} {Q : List Int} {us : List Value} (h : FreshP B w m q M Q us) (ht : Tch bs w w') (hd : ∀ b, b ∈ bs → b < B) : FreshP B w' m q M Q us :=
  ⟨h.rows.tch ht hd, h.right.tch ht hd, h.apart⟩
theorem FreshP.mono {B C : Nat} {w : World} {m q : Value} {M : List (List Int)} {Q : List Int} {us : List Value} (h : FreshP B w m q M Q us) (hC : C ≤ B) : FreshP C w m q M Q us :=
  ⟨h.rows.mono hC, h.right.mono hC, h.apart⟩

/-- What a function leaves that returns a problem of its own. -/
def GivesP (w : World) (M : List (List Int)) (Q : List Int) (e : Ending) (w' : World) : Prop :=
  ∃ m q us, e = .returned (.agg #[m, q]) ∧ FreshP w.heap.size w' m q M Q us ∧ Below w.heap.size w w'

theorem copyProblem_any (m q : Value) (M : List (List Int)) (Q : List Int) (w : World) (h1 : PM.Rows w m M) (h2 : Ints w q Q) (h0 : M ≠ []) (hne : ∀ i, i < M.length → M.getD i [] ≠ []) (hq0 : Q ≠ []) (hn : tot M ≤ 1048576) (hn2 : Q.length ≤ 1048576) :
    Calls Try.prog 71 #[.agg #[m, q]] w (GivesP w M Q) := by
  have g1 := fun (w' : World) (h : Below w.heap.size w w') => h1.below h
  have g2 := fun (w' : World) (h : Below w.heap.size w w') => h2.below h
  obtain ⟨a1, c1, rfl, _⟩ := h1
  obtain ⟨a2, c2, rfl, _⟩ := h2
  have HN := Lib.hid hn
  have HE := Lib.hid hne
  have H0 := Lib.hid h0
  have HQ := Lib.hid hq0
  obtain ⟨W0, hW0⟩ : ∃ W0, W0 = ((w.alloc (.cells #[.slice a1 M.length c1, .slice a2 Q.length c2] 27)).alloc (.cells #[.slice none 0 0, .slice none 0 0] 27)) := ⟨_, rfl⟩
  have hz0 : w.heap.size + 2 = W0.heap.size := by rw [hW0]; simp
  have hb0 : Below w.heap.size w W0 := by rw [hW0]; (repeat' (first | (with_reducible exact Below.refl _ _) | (with_reducible assumption) | (with_reducible refine Below.alloc ?_ ?_ _) | (with_reducible refine Below.drew ?_) | (with_reducible refine below_drewN ?_ _) | (with_reducible refine Below.setCell ?_ ?_ _) | (with_reducible refine Below.trans ?_ (Below.mono (by with_reducible assumption) ?_)) | (with_reducible exact Below.size (by with_reducible assumption)) | go_size))
  have r1 : ∀ w', Below (w.heap.size + 1) W0 w' → w'.cell? ⟨w.heap.size, 0, none⟩ = some (.slice a1 M.length c1) := fun w' h => (h.cell (p := ⟨w.heap.size, 0, none⟩) (by show w.heap.size < _; omega)).trans (by rw [hW0]; simp)
  have r2 : ∀ w', Below (w.heap.size + 1) W0 w' → w'.cell? ⟨w.heap.size, 1, none⟩ = some (.slice a2 Q.length c2) := fun w' h => (h.cell (p := ⟨w.heap.size, 1, none⟩) (by show w.heap.size < _; omega)).trans (by rw [hW0]; simp)
  have r3 : ∀ w', Below W0.heap.size W0 w' → w'.cell? ⟨w.heap.size + 1, 0, none⟩ = some (.slice none 0 0) := fun w' h => (h.cell (p := ⟨w.heap.size + 1, 0, none⟩) (by show w.heap.size + 1 < _; omega)).trans (by rw [hW0]; simp)
  have r4 : ∀ w', Below W0.heap.size W0 w' → w'.cell? ⟨w.heap.size + 1, 1, none⟩ = some (.slice none 0 0) := fun w' h => (h.cell (p := ⟨w.heap.size + 1, 1, none⟩) (by show w.heap.size + 1 < _; omega)).trans (by rw [hW0]; simp)
  have r5 : ∀ w' o, Below W0.heap.size W0 w' → w'.frozen? ⟨w.heap.size + 1, o, none⟩ = false := fun w' o h => (h.frozen (p := ⟨w.heap.size + 1, o, none⟩) (by show w.heap.size + 1 < _; omega)).trans (by rw [hW0]; simp)
  have hz1 : w.heap.size + 1 ≤ W0.heap.size := by omega
  have HW := Lib.hid hW0
  have HZ := Lib.hid hz0
  clear hW0 hz0 hn hne h0 hq0
  go_enter Try.func71, Try.ntmps71
  go_wp2_with fail
  rw [← HW.out]
  go_region_held3 (fun w' => Below (w.heap.size + 1) W0 w') ((repeat' (first | (with_reducible exact Below.refl _ _) | (with_reducible assumption) | (with_reducible refine Below.alloc ?_ ?_ _) | (with_reducible refine Below.drew ?_) | (with_reducible refine below_drewN ?_ _) | (with_reducible refine Below.setCell ?_ ?_ _) | (with_reducible refine Below.trans ?_ (Below.mono (by with_reducible assumption) ?_)) | (with_reducible exact Below.size (by with_reducible assumption)) | go_size)))
    (first | (go_at_call 113; refine (copyRows_any _ M _ (g1 _ (by (repeat' (first | (with_reducible exact Below.refl _ _) | (with_reducible assumption) | (with_reducible refine Below.alloc ?_ ?_ _) | (with_reducible refine Below.drew ?_) | (with_reducible refine below_drewN ?_ _) | (with_reducible refine Below.setCell ?_ ?_ _) | (with_reducible refine Below.trans ?_ (Below.mono (by with_reducible assumption) ?_)) | (with_reducible exact Below.size (by with_reducible assumption)) | go_size)))) H0.out HE.out HN.out).mono ?_; rintro e w1 ⟨us, rfl, hf1, hb1⟩; have hk1 : Below W0.heap.size W0 w1 := (by (repeat' (first | (with_reducible exact Below.refl _ _) | (with_reducible assumption) | (with_reducible refine Below.alloc ?_ ?_ _) | (with_reducible refine Below.drew ?_) | (with_reducible refine below_drewN ?_ _) | (with_reducible refine Below.setCell ?_ ?_ _) | (with_reducible refine Below.trans ?_ (Below.mono (by with_reducible assumption) ?_)) | (with_reducible exact Below.size (by with_reducible assumption)) | go_size)))) | (go_at_call 114; refine (clone_any _ Q _ (g2 _ (by (repeat' (first | (with_reducible exact Below.refl _ _) | (with_reducible assumption) | (with_reducible refine Below.alloc ?_ ?_ _) | (with_reducible refine Below.drew ?_) | (with_reducible refine below_drewN ?_ _) | (with_reducible refine Below.setCell ?_ ?_ _) | (with_reducible refine Below.trans ?_ (Below.mono (by with_reducible assumption) ?_)) | (with_reducible exact Below.size (by with_reducible assumption)) | go_size)))) HQ.out hn2).mono ?_; rintro e w2 ⟨u2, rfl, ⟨gq, cq, rfl, hq1, hq2, hq3⟩, hb2⟩; have hf2 : FreshI w1.heap.size w2 (.slice (some ⟨gq, 0, none⟩) Q.length cq) Q := ⟨gq, cq, rfl, hq1, hq2, hq3⟩; have hk2 : Below W0.heap.size W0 w2 := (by (repeat' (first | (with_reducible exact Below.refl _ _) | (with_reducible assumption) | (with_reducible refine Below.alloc ?_ ?_ _) | (with_reducible refine Below.drew ?_) | (with_reducible refine below_drewN ?_ _) | (with_reducible refine Below.setCell ?_ ?_ _) | (with_reducible refine Below.trans ?_ (Below.mono (by with_reducible assumption) ?_)) | (with_reducible exact Below.size (by with_reducible assumption)) | go_size)))))
  go_wp2_with fail
  refine bodyPost_ret (v := .agg #[.slice (some ⟨W0.heap.size, 0, none⟩) M.length M.length, .slice (some ⟨gq, 0, none⟩) Q.length cq]) (by simp [*, results, Try.results71, go_sem]) rfl ?_
  have hfp := freshP_of hf1 hf2 (hb1.size) hb2
  have hW0 : w.heap.size + 1 < W0.heap.size := by have := HZ.out; omega
  refine ⟨_, _, us, rfl, (hfp.tch (bs := [w.heap.size + 1]) (((Tch.refl _ w2).setCell (by simp) _).setCell (by simp) _) (fun b hb => ?_)).mono (by simp; omega), ?_⟩
  · simp at hb
    simp
    omega
  · exact (((hb0.trans (hk2.mono hb0.size)).setCell (by simp) _).setCell (by simp) _)
end Go.Proofs.Ytkdgnegnndedaaa.PW
