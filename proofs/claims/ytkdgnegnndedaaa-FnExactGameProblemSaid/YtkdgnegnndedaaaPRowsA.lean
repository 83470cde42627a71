/-
  Rows of numbers in memory of the call's own: a row put in its place, a number stored, two rows exchanged, an empty frame of rows.
-/
import Derived.Test.YtkdgnegnndedaaaPWalkS
namespace Go.Proofs.Ytkdgnegnndedaaa.PW
open Go.RowKit Go.Proofs.Ytkdgnegnndedaaa
open Go.Proofs.Ytkdgnegnndedaaa.PM

theorem getD_set_self {α : Type} (l : List α) (i : Nat) (x d : α) (h : i < l.length) : (l.set i x).getD i d = x := by simp [h]
theorem getD_set_ne {α : Type} (l : List α) {i j : Nat} (x d : α) (h : j ≠ i) : (l.set i x).getD j d = l.getD j d := by
  simp only [List.getD_eq_getElem?_getD]
  rw [List.getElem?_set_ne (fun c => h c.symm)]
theorem own_any {w w' : World} {T n : Nat} {g cap : Nat} {xs : List Value} {bs : List Nat} (h : w.ownsRow 0 T 1 (.slice (some ⟨g, 0, none⟩) n cap) n xs) (ht : Tch bs w w') (hg : g ∉ bs) : w'.ownsRow 0 T 1 (.slice (some ⟨g, 0, none⟩) n cap) n xs := by
  refine ⟨h.1, ?_⟩
  rcases h.2 with h2 | ⟨g2, cap2, cur, hv, hb, hg2, r⟩
  · exact .inl h2
  · refine .inr ⟨g2, cap2, cur, hv, hb, ?_, r⟩
    simp only [Value.slice.injEq, Option.some.injEq, Addr.mk.injEq, and_true, true_and] at hv
    rw [ht.block g2 (by rw [← hv.1]; exact hg)]
    exact hg2

/-- A frame of n empty rows. -/
theorem freshR_made (w : World) (n : Nat) (hn : n ≤ maxLen) : FreshR w.heap.size (w.alloc (.cells (madeCells #[.slice none 0 0] n) 23)) (.slice (some ⟨w.heap.size, 0, none⟩) n n) (List.replicate n []) (List.replicate n (.slice none 0 0)) := by
  have hnil : ∀ i, i < n → (List.replicate n (Value.slice none 0 0)).getD i undef = .slice none 0 0 := fun i hi => by simp [hi]
  have hl : (List.replicate n ([] : List Int)).length = n := by simp
  refine ⟨⟨by simp, ?_, fun i hi => ?_, fun i j b hi hj h1 => ?_, fun i b hi _ => ?_⟩, ⟨w.heap.size, n, by rw [hl], Nat.le_refl _, by simp⟩, fun i b hi h1 => ?_⟩
  · rw [hl]
    obtain ⟨c, hb, hn', hc⟩ := World.rowIs_made w (.slice none 0 0) n 23
    refine ⟨by simp, .inr ⟨w.heap.size, n, c, rfl, Nat.zero_le _, hb, Nat.le_refl _, hn, by simpa using hn', ?_⟩⟩
    rw [Nat.mul_one, List.take_of_length_le (by simp [hn'])]
    apply List.ext_getElem?
    intro i
    by_cases hi : i < n
    · have := hc i hi
      rw [Array.getElem?_toList, this]
      simp [hi]
    · rw [List.getElem?_eq_none (by simp [hn']; omega), List.getElem?_eq_none (by simp; omega)]
  · rw [hl] at hi
    rw [hnil i hi]
    have : (List.replicate n ([] : List Int)).getD i [] = [] := by simp [hi]
    rw [this]
    exact World.ownsRow_nil _ _ _ _
  · rw [hl] at hi; rw [hnil i hi] at h1; simp [Value.ownBlock] at h1
  · rw [hl] at hi; rw [hnil i hi]; simp [Value.ownBlock]
  · rw [hl] at hi; rw [hnil i hi] at h1; simp [Value.ownBlock] at h1

/-- A row is put in its place. -/
theorem FreshR.putRow {B : Nat} {w : World} {g cap i n : Nat} {u : Value} {xs : List Int} {xss : List (List Int)} {us : List Value} (h : FreshR B w (.slice (some ⟨g, 0, none⟩) n cap) xss us) (hi : i < xss.length) (hu : FreshI B w u xs)
    (hne : ∀ b, u.ownBlock = some b → b ≠ g ∧ ∀ j, j < xss.length → j ≠ i → (us.getD j undef).ownBlock ≠ some b) :
    FreshR B (w.setCell ⟨g, i, none⟩ u) (.slice (some ⟨g, 0, none⟩) n cap) (xss.set i xs) (us.set i u) := by
  have ht : Tch [g] w (w.setCell ⟨g, i, none⟩ u) := (Tch.refl _ _).setCell (by simp) _
  obtain ⟨⟨h1, h2, h3, h4, h5⟩, ⟨gm, cm, hv, hB, hlt⟩, h6⟩ := h
  have hn : n = xss.length := by simp at hv; omega
  have hgm : gm = g := by simp at hv; omega
  subst hn hgm
  have hcm : cm = cap := by simp at hv; omega
  subst hcm
  have hlen : (xss.set i xs).length = xss.length := by simp
  have hui : i < us.length := by rw [h1]; exact hi
  refine ⟨⟨by rw [hlen]; simp [h1], ?_, fun k hk => ?_, fun a b c ha hb h1' h2' => ?_, fun k b hk hv' hb' => ?_⟩, ⟨gm, cm, by rw [hlen], hB, by simpa using hlt⟩, fun k b hk hb => ?_⟩
  · rw [hlen]; exact (World.ownsRow.stored h2 i u).1
  · rw [hlen] at hk
    by_cases e : k = i
    · subst e
      rw [getD_set_self _ _ _ _ hui, getD_set_self _ _ _ _ hi]
      obtain ⟨g2, cap2, hv2, hB2, hlt2, ho⟩ := hu
      exact ho.tch ht (fun b hb c => by simp at c; exact (hne b hb).1 c)
    · rw [getD_set_ne _ _ _ e, getD_set_ne _ _ _ e]
      exact (h3 k hk).tch ht (fun b hb c => by simp at c; subst c; exact h5 k b hk rfl hb)
  · rw [hlen] at ha hb
    by_cases e1 : a = i <;> by_cases e2 : b = i
    · omega
    · subst e1
      rw [getD_set_self _ _ _ _ hui] at h1'
      rw [getD_set_ne _ _ _ e2] at h2'
      exact absurd h2' ((hne c h1').2 b hb e2)
    · subst e2
      rw [getD_set_self _ _ _ _ hui] at h2'
      rw [getD_set_ne _ _ _ e1] at h1'
      exact absurd h1' ((hne c h2').2 a ha e1)
    · rw [getD_set_ne _ _ _ e1] at h1'
      rw [getD_set_ne _ _ _ e2] at h2'
      exact h4 a b c ha hb h1' h2'
  · rw [hlen] at hk
    by_cases e : k = i
    · subst e
      rw [getD_set_self _ _ _ _ hui] at hb'
      simp [Value.ownBlock] at hv'
      exact (hne b hb').1 hv'.symm
    · rw [getD_set_ne _ _ _ e] at hb'
      exact h5 k b hk hv' hb'
  · rw [hlen] at hk
    by_cases e : k = i
    · subst e
      rw [getD_set_self _ _ _ _ hui] at hb
      obtain ⟨g2, cap2, hv2, hB2, hlt2, ho⟩ := hu
      rw [hv2] at hb
      simp [Value.ownBlock] at hb
      simp
      omega
    · rw [getD_set_ne _ _ _ e] at hb
      have := h6 k b hk hb
      simpa using this

/-- A number is stored into a row. -/
theorem FreshR.setRow {B : Nat} {w : World} {v : Value} {g cap i n : Nat} {xss : List (List Int)} {us : List Value} (h : FreshR B w v xss us) (hi : i < xss.length)
    (hu : us.getD i undef = .slice (some ⟨g, 0, none⟩) n cap) (j : Nat) (x : Int) :
    FreshR B (w.setCell ⟨g, j, none⟩ (.int .i64 x)) v (xss.set i ((xss.getD i []).set j x)) us := by
  have ht : Tch [g] w (w.setCell ⟨g, j, none⟩ (.int .i64 x)) := (Tch.refl _ _).setCell (by simp) _
  have hub : (us.getD i undef).ownBlock = some g := by rw [hu]; rfl
  obtain ⟨⟨h1, h2, h3, h4, h5⟩, ⟨gm, cm, hv, hB, hlt⟩, h6⟩ := h
  have hlen : (xss.set i ((xss.getD i []).set j x)).length = xss.length := by simp
  have hgm : g ≠ gm := fun c => h5 i g hi (by rw [hv, c]; rfl) hub
  refine ⟨⟨by rw [hlen]; exact h1, ?_, fun k hk => ?_, fun a b c ha hb => h4 a b c (by rw [hlen] at ha; exact ha) (by rw [hlen] at hb; exact hb), fun k b hk => h5 k b (by rw [hlen] at hk; exact hk)⟩,
    ⟨gm, cm, by rw [hlen]; exact hv, hB, by simpa using hlt⟩, fun k b hk hb => ⟨(h6 k b (by rw [hlen] at hk; exact hk) hb).1, by simpa using (h6 k b (by rw [hlen] at hk; exact hk) hb).2⟩⟩
  · rw [hlen]
    subst hv
    exact own_any h2 ht (by simp; omega)
  · rw [hlen] at hk
    by_cases e : k = i
    · subst e
      have h3k := h3 k hk
      have hn : n = (xss.getD k []).length := by
        rw [hu] at h3k
        rcases h3k.2 with ⟨c, _⟩ | ⟨g2, cap2, cur, hv', _⟩
        · simp at c
        · simp only [Value.slice.injEq] at hv'; exact hv'.2.1
      rw [hn] at hu
      rw [hu] at h3k ⊢
      rw [getD_set_self _ _ _ _ hi]
      exact own_set h3k j x
    · rw [getD_set_ne _ _ _ e]
      exact (h3 k hk).tch ht (fun b hb c => by simp at c; subst c; exact e (h4 k i _ hk hi hb hub))

/-- Two rows exchange their places. -/
theorem FreshR.swap {B : Nat} {w : World} {g cap r c n : Nat} {xss : List (List Int)} {us : List Value} (h : FreshR B w (.slice (some ⟨g, 0, none⟩) n cap) xss us) (hr : r < xss.length) (hc : c < xss.length) (hrc : r ≠ c) :
    FreshR B ((w.setCell ⟨g, r, none⟩ (us.getD c undef)).setCell ⟨g, c, none⟩ (us.getD r undef)) (.slice (some ⟨g, 0, none⟩) n cap) ((xss.set r (xss.getD c [])).set c (xss.getD r [])) ((us.set r (us.getD c undef)).set c (us.getD r undef)) := by
  have ht : Tch [g] w ((w.setCell ⟨g, r, none⟩ (us.getD c undef)).setCell ⟨g, c, none⟩ (us.getD r undef)) := ((Tch.refl _ _).setCell (by simp) _).setCell (by simp) _
  obtain ⟨⟨h1, h2, h3, h4, h5⟩, ⟨gm, cm, hv, hB, hlt⟩, h6⟩ := h
  have hn : n = xss.length := by simp at hv; omega
  have hgm : gm = g := by simp at hv; omega
  subst hn hgm
  have hcm : cm = cap := by simp at hv; omega
  subst hcm
  have hlen : ((xss.set r (xss.getD c [])).set c (xss.getD r [])).length = xss.length := by simp
  -- the place from which a row comes
  obtain ⟨σ, hσ⟩ : ∃ σ : Nat → Nat, σ = fun k => if k = c then r else if k = r then c else k := ⟨_, rfl⟩
  have hσlt : ∀ k, k < xss.length → σ k < xss.length := fun k hk => by
    rw [hσ]; dsimp only
    split
    · exact hr
    · split
      · exact hc
      · exact hk
  have hσi : ∀ a b, σ a = σ b → a = b := fun a b hab => by
    rw [hσ] at hab; dsimp only at hab
    repeat' split at hab
    all_goals omega
  have hus : ∀ k, k < xss.length → ((us.set r (us.getD c undef)).set c (us.getD r undef)).getD k undef = us.getD (σ k) undef := fun k hk => by
    rw [hσ]; dsimp only
    by_cases e : k = c
    · subst e; rw [getD_set_self _ _ _ _ (by simp [h1]; omega), if_pos rfl]
    · rw [getD_set_ne _ _ _ e, if_neg e]
      by_cases e2 : k = r
      · subst e2; rw [getD_set_self _ _ _ _ (by rw [h1]; exact hr), if_pos rfl]
      · rw [getD_set_ne _ _ _ e2, if_neg e2]
  have hxs : ∀ k, k < xss.length → ((xss.set r (xss.getD c [])).set c (xss.getD r [])).getD k [] = xss.getD (σ k) [] := fun k hk => by
    rw [hσ]; dsimp only
    by_cases e : k = c
    · subst e; rw [getD_set_self _ _ _ _ (by simp; omega), if_pos rfl]
    · rw [getD_set_ne _ _ _ e, if_neg e]
      by_cases e2 : k = r
      · subst e2; rw [getD_set_self _ _ _ _ hr, if_pos rfl]
      · rw [getD_set_ne _ _ _ e2, if_neg e2]
  refine ⟨⟨by rw [hlen]; simp [h1], ?_, fun k hk => ?_, fun a b d ha hb h1' h2' => ?_, fun k b hk hv' hb' => ?_⟩, ⟨gm, cm, by rw [hlen], hB, by simpa using hlt⟩, fun k b hk hb => ?_⟩
  · rw [hlen]; exact (World.ownsRow.stored (World.ownsRow.stored h2 r _).1 c _).1
  · rw [hlen] at hk
    rw [hus k hk, hxs k hk]
    exact (h3 _ (hσlt k hk)).tch ht (fun b hb d => by simp at d; subst d; exact h5 _ b (hσlt k hk) rfl hb)
  · rw [hlen] at ha hb
    rw [hus a ha] at h1'
    rw [hus b hb] at h2'
    exact hσi _ _ (h4 _ _ d (hσlt a ha) (hσlt b hb) h1' h2')
  · rw [hlen] at hk
    rw [hus k hk] at hb'
    exact h5 _ b (hσlt k hk) hv' hb'
  · rw [hlen] at hk
    rw [hus k hk] at hb
    have := h6 _ b (hσlt k hk) hb
    simpa using this
end Go.Proofs.Ytkdgnegnndedaaa.PW
