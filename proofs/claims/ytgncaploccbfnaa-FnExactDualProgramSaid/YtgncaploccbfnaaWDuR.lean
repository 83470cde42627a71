/-
  What has been laid while a program's parts are made in whatever order and put behind a variable of its own.
-/
import Derived.Test.YtgncaploccbfnaaWPrV
namespace Go.Proofs.Ytgncaploccbfnaa.PW
open Go.RowKit Go.Proofs.Ytgncaploccbfnaa
open Go.Proofs.Ytgncaploccbfnaa.PM Go.Proofs.Ytgncaploccbfnaa.PX

structure DuR (W w' : World) (d c a b : Value) (D : List (List Int)) (C B : List Int) (us : List Value) (g : Nat) (bD bC bA bB bx bs : Bool) : Prop where
  low : Below W.heap.size W w'
  pd : bD = true → OwnR w' d D us ∧ ∀ k, k ∈ blks d ++ rblks us → W.heap.size ≤ k ∧ k < w'.heap.size
  pc : bC = true → OwnI w' c C ∧ ∀ k, k ∈ blks c → W.heap.size ≤ k ∧ k < w'.heap.size
  pa : bA = true → OwnR w' a [] [] ∧ ∀ k, k ∈ blks a → W.heap.size ≤ k ∧ k < w'.heap.size
  pb : bB = true → OwnI w' b B ∧ ∀ k, k ∈ blks b → W.heap.size ≤ k ∧ k < w'.heap.size
  dc : bD = true → bC = true → ∀ k, k ∈ blks d ++ rblks us → k ∈ blks c → False
  da : bD = true → bA = true → ∀ k, k ∈ blks d ++ rblks us → k ∈ blks a → False
  db : bD = true → bB = true → ∀ k, k ∈ blks d ++ rblks us → k ∈ blks b → False
  ca : bC = true → bA = true → ∀ k, k ∈ blks c → k ∈ blks a → False
  cb : bC = true → bB = true → ∀ k, k ∈ blks c → k ∈ blks b → False
  ab : bA = true → bB = true → ∀ k, k ∈ blks a → k ∈ blks b → False
  box : bx = true → W.heap.size ≤ g ∧ g < w'.heap.size ∧ (∀ o, w'.frozen? ⟨g, o, none⟩ = false)
  zero : bx = true → bs = false → w'.cell? ⟨g, 0, none⟩ = some (.slice none 0 0) ∧ w'.cell? ⟨g, 1, none⟩ = some (.slice none 0 0) ∧ w'.cell? ⟨g, 2, none⟩ = some (.slice none 0 0) ∧ w'.cell? ⟨g, 3, none⟩ = some (.slice none 0 0)
  full : bs = true → w'.cell? ⟨g, 0, none⟩ = some d ∧ w'.cell? ⟨g, 1, none⟩ = some c ∧ w'.cell? ⟨g, 2, none⟩ = some a ∧ w'.cell? ⟨g, 3, none⟩ = some b
  gd : bx = true → bD = true → g ∉ blks d ++ rblks us
  gc : bx = true → bC = true → g ∉ blks c
  ga : bx = true → bA = true → g ∉ blks a
  gb : bx = true → bB = true → g ∉ blks b
section
variable {W w' w'' : World} {d c a b : Value} {D : List (List Int)} {C B : List Int} {us : List Value} {g : Nat} {bD bC bA bB bx bs : Bool}
theorem rng_up {w1 w2 : World} {L : Nat} {S : List Nat} (h : ∀ k, k ∈ S → L ≤ k ∧ k < w1.heap.size) (hb : Below w1.heap.size w1 w2) : ∀ k, k ∈ S → L ≤ k ∧ k < w2.heap.size := fun k hk => ⟨(h k hk).1, Nat.lt_of_lt_of_le (h k hk).2 hb.size⟩
theorem DuR.start (W : World) (d c b : Value) (D : List (List Int)) (C B : List Int) (us : List Value) (g : Nat) : DuR W W d c (.slice none 0 0) b D C B us g false false true false false false :=
  ⟨Below.refl _ _, fun e => Bool.noConfusion e, fun e => Bool.noConfusion e, fun _ => ⟨⟨rfl, World.ownsRow_nil _ _ _ _, fun i hi => absurd hi (Nat.not_lt_zero _), fun i j b hi => absurd hi (Nat.not_lt_zero _), fun i b hi => absurd hi (Nat.not_lt_zero _)⟩, fun k hk => by simp [blks, Value.ownBlock] at hk⟩, fun e => Bool.noConfusion e,
    fun e => Bool.noConfusion e, fun e => Bool.noConfusion e, fun e => Bool.noConfusion e, fun e => Bool.noConfusion e, fun e => Bool.noConfusion e, fun _ e => Bool.noConfusion e, fun e => Bool.noConfusion e, fun e => Bool.noConfusion e, fun e => Bool.noConfusion e, fun e => Bool.noConfusion e, fun e => Bool.noConfusion e, fun e => Bool.noConfusion e, fun e => Bool.noConfusion e⟩
theorem DuR.start0 (W : World) (d c a b : Value) (D : List (List Int)) (C B : List Int) (us : List Value) (g : Nat) : DuR W W d c a b D C B us g false false false false false false :=
  ⟨Below.refl _ _, fun e => Bool.noConfusion e, fun e => Bool.noConfusion e, fun e => Bool.noConfusion e, fun e => Bool.noConfusion e,
    fun e => Bool.noConfusion e, fun e => Bool.noConfusion e, fun e => Bool.noConfusion e, fun e => Bool.noConfusion e, fun e => Bool.noConfusion e, fun e => Bool.noConfusion e, fun e => Bool.noConfusion e, fun e => Bool.noConfusion e, fun e => Bool.noConfusion e, fun e => Bool.noConfusion e, fun e => Bool.noConfusion e, fun e => Bool.noConfusion e, fun e => Bool.noConfusion e⟩
theorem DuR.next (h : DuR W w' d c a b D C B us g bD bC bA bB bx bs) (hb : Below w'.heap.size w' w'') : DuR W w'' d c a b D C B us g bD bC bA bB bx bs := by
  have fcell : bx = true → ∀ o, w''.cell? ⟨g, o, none⟩ = w'.cell? ⟨g, o, none⟩ := fun e o => hb.cell (p := ⟨g, o, none⟩) (h.box e).2.1
  refine ⟨h.low.trans (hb.mono h.low.size), fun e => ?_, fun e => ?_, fun e => ?_, fun e => ?_, h.dc, h.da, h.db, h.ca, h.cb, h.ab, fun e => ?_, fun e e2 => ?_, fun e => ?_, h.gd, h.gc, h.ga, h.gb⟩
  · obtain ⟨h1, h2⟩ := h.pd e
    exact ⟨ownR_same h1 (fun k hk => hb.block k (h2 k hk).2), rng_up h2 hb⟩
  · obtain ⟨h1, h2⟩ := h.pc e
    exact ⟨ownI_same h1 (fun k hk => hb.block k (h2 k hk).2), rng_up h2 hb⟩
  · obtain ⟨h1, h2⟩ := h.pa e
    exact ⟨ownR_same h1 (fun k hk => hb.block k (h2 k (by simpa [rblks] using hk)).2), rng_up h2 hb⟩
  · obtain ⟨h1, h2⟩ := h.pb e
    exact ⟨ownI_same h1 (fun k hk => hb.block k (h2 k hk).2), rng_up h2 hb⟩
  · obtain ⟨h1, h2, h3⟩ := h.box e
    exact ⟨h1, Nat.lt_of_lt_of_le h2 hb.size, fun o => (hb.frozen (p := ⟨g, o, none⟩) h2).trans (h3 o)⟩
  · obtain ⟨h1, h2, h3, h4⟩ := h.zero e e2
    exact ⟨(fcell e 0).trans h1, (fcell e 1).trans h2, (fcell e 2).trans h3, (fcell e 3).trans h4⟩
  · obtain ⟨h1, h2, h3, h4⟩ := h.full e
    have hl : ∀ o v, w'.cell? ⟨g, o, none⟩ = some v → w''.cell? ⟨g, o, none⟩ = some v := fun o v hv => (hb.cell (p := ⟨g, o, none⟩) (World.block_lt_of_cell? w' _ hv)).trans hv
    exact ⟨hl 0 _ h1, hl 1 _ h2, hl 2 _ h3, hl 3 _ h4⟩
theorem DuR.callD {d' : Value} {us' : List Value} (h : DuR W w' d c a b D C B us g false bC bA bB bx false) (ho : OwnRs w'.heap.size w'' d' D us') (hb : Below w'.heap.size w' w'') : DuR W w'' d' c a b D C B us' g true bC bA bB bx false := by
  have n := h.next hb
  have hr := ownRs_blks ho
  have hl := h.low.size
  exact ⟨n.low, fun _ => ⟨ho.rows, fun k hk => by have := hr k hk; omega⟩, n.pc, n.pa, n.pb, fun _ e k h1 h2 => by have := (h.pc e).2 k h2; have := hr k h1; omega, fun _ e k h1 h2 => by have := (h.pa e).2 k h2; have := hr k h1; omega, fun _ e k h1 h2 => by have := (h.pb e).2 k h2; have := hr k h1; omega,
    n.ca, n.cb, n.ab, n.box, n.zero, fun e => Bool.noConfusion e, fun e _ hk => by have := (h.box e).2.1; have := hr g hk; omega, n.gc, n.ga, n.gb⟩
theorem DuR.callC {c' : Value} (h : DuR W w' d c a b D C B us g bD false bA bB bx false) (ho : FreshI w'.heap.size w'' c' C) (hb : Below w'.heap.size w' w'') : DuR W w'' d c' a b D C B us g bD true bA bB bx false := by
  have n := h.next hb
  have hr := freshI_blks ho
  have hl := h.low.size
  exact ⟨n.low, n.pd, fun _ => ⟨by obtain ⟨_, _, _, _, _, ho⟩ := ho; exact ho, fun k hk => by have := hr k hk; omega⟩, n.pa, n.pb, fun e _ k h1 h2 => by have := (h.pd e).2 k h1; have := hr k h2; omega, n.da, n.db, fun _ e k h1 h2 => by have := (h.pa e).2 k h2; have := hr k h1; omega, fun _ e k h1 h2 => by have := (h.pb e).2 k h2; have := hr k h1; omega,
    n.ab, n.box, n.zero, fun e => Bool.noConfusion e, n.gd, fun e _ hk => by have := (h.box e).2.1; have := hr g hk; omega, n.ga, n.gb⟩
theorem DuR.callB {b' : Value} (h : DuR W w' d c a b D C B us g bD bC bA false bx false) (ho : FreshI w'.heap.size w'' b' B) (hb : Below w'.heap.size w' w'') : DuR W w'' d c a b' D C B us g bD bC bA true bx false := by
  have n := h.next hb
  have hr := freshI_blks ho
  have hl := h.low.size
  exact ⟨n.low, n.pd, n.pc, n.pa, fun _ => ⟨by obtain ⟨_, _, _, _, _, ho⟩ := ho; exact ho, fun k hk => by have := hr k hk; omega⟩, n.dc, n.da, fun e _ k h1 h2 => by have := (h.pd e).2 k h1; have := hr k h2; omega, n.ca, fun e _ k h1 h2 => by have := (h.pc e).2 k h1; have := hr k h2; omega, fun e _ k h1 h2 => by have := (h.pa e).2 k h1; have := hr k h2; omega,
    n.box, n.zero, fun e => Bool.noConfusion e, n.gd, n.gc, n.ga, fun e _ hk => by have := (h.box e).2.1; have := hr g hk; omega⟩
theorem DuR.emptyA (h : DuR W w' d c a b D C B us g bD bC false bB bx false) : DuR W (w'.alloc (.cells #[] 23)) d c (.slice (some ⟨w'.heap.size, 0, none⟩) 0 0) b D C B us g bD bC true bB bx false := by
  have n := h.next ((Below.refl _ _).alloc (Nat.le_refl _) (.cells #[] 23))
  have hl := h.low.size
  have ho := (freshR_nil w').own
  have hr : ∀ k, k ∈ blks (.slice (some ⟨w'.heap.size, 0, none⟩) 0 0) → k = w'.heap.size := fun k hk => by simpa [blks, Value.ownBlock] using hk
  exact ⟨n.low, n.pd, n.pc, fun _ => ⟨ho, fun k hk => by have := hr k hk; simp; omega⟩, n.pb, n.dc, fun e _ k h1 h2 => by have := (h.pd e).2 k h1; have := hr k h2; omega, n.db, fun e _ k h1 h2 => by have := (h.pc e).2 k h1; have := hr k h2; omega, n.cb, fun _ e k h1 h2 => by have := (h.pb e).2 k h2; have := hr k h1; omega,
    n.box, n.zero, fun e => Bool.noConfusion e, n.gd, n.gc, fun e _ hk => by have := (h.box e).2.1; have := hr g hk; omega, n.gb⟩
theorem DuR.box_ (h : DuR W w' d c a b D C B us g bD bC bA bB false false) : DuR W (w'.alloc (.cells #[.slice none 0 0, .slice none 0 0, .slice none 0 0, .slice none 0 0] 54)) d c a b D C B us w'.heap.size bD bC bA bB true false := by
  have n := h.next ((Below.refl _ _).alloc (Nat.le_refl _) (.cells #[.slice none 0 0, .slice none 0 0, .slice none 0 0, .slice none 0 0] 54))
  have hl := h.low.size
  exact ⟨n.low, n.pd, n.pc, n.pa, n.pb, n.dc, n.da, n.db, n.ca, n.cb, n.ab, fun _ => ⟨hl, by simp, fun o => by simp [go_sem]⟩, fun _ _ => ⟨by simp [go_sem], by simp [go_sem], by simp [go_sem], by simp [go_sem]⟩, fun e => Bool.noConfusion e,
    fun _ e hk => by have := (h.pd e).2 _ hk; omega, fun _ e hk => by have := (h.pc e).2 _ hk; omega, fun _ e hk => by have := (h.pa e).2 _ hk; omega, fun _ e hk => by have := (h.pb e).2 _ hk; omega⟩
theorem DuR.store_ (h : DuR W w' d c a b D C B us g true true true true true false) :
    DuR W ((((w'.setCell ⟨g, 0, none⟩ d).setCell ⟨g, 1, none⟩ c).setCell ⟨g, 2, none⟩ a).setCell ⟨g, 3, none⟩ b) d c a b D C B us g true true true true true true := by
  obtain ⟨g1, g2, g3⟩ := h.box rfl
  obtain ⟨z0, z1, z2, z3⟩ := h.zero rfl rfl
  obtain ⟨W5, hW5⟩ : ∃ W5, W5 = (((w'.setCell ⟨g, 0, none⟩ d).setCell ⟨g, 1, none⟩ c).setCell ⟨g, 2, none⟩ a).setCell ⟨g, 3, none⟩ b := ⟨_, rfl⟩
  have hk : ∀ x, x ≠ g → W5.heap[x]? = w'.heap[x]? := fun x hx => by
    rw [hW5]
    exact (Below.heap_setCell _ ⟨g, 3, none⟩ _ _ hx).trans ((Below.heap_setCell _ ⟨g, 2, none⟩ _ _ hx).trans ((Below.heap_setCell _ ⟨g, 1, none⟩ _ _ hx).trans (Below.heap_setCell _ ⟨g, 0, none⟩ _ _ hx)))
  have hz : W5.heap.size = w'.heap.size := by rw [hW5]; simp
  have hlow : Below W.heap.size W W5 := by rw [hW5]; exact (((h.low.setCell (p := ⟨g, 0, none⟩) g1 _).setCell (p := ⟨g, 1, none⟩) g1 _).setCell (p := ⟨g, 2, none⟩) g1 _).setCell (p := ⟨g, 3, none⟩) g1 _
  have q0 : W5.cell? ⟨g, 0, none⟩ = some d := by rw [hW5]; simp [go_sem, z0]
  have q1 : W5.cell? ⟨g, 1, none⟩ = some c := by rw [hW5]; simp [go_sem, z1]
  have q2 : W5.cell? ⟨g, 2, none⟩ = some a := by rw [hW5]; simp [go_sem, z2]
  have q3 : W5.cell? ⟨g, 3, none⟩ = some b := by rw [hW5]; simp [go_sem, z3]
  have qf : ∀ o, W5.frozen? ⟨g, o, none⟩ = false := fun o => by rw [hW5]; simpa [go_sem] using g3 o
  rw [← hW5]
  clear hW5
  obtain ⟨d1, d2⟩ := h.pd rfl
  obtain ⟨c1, c2⟩ := h.pc rfl
  obtain ⟨a1, a2⟩ := h.pa rfl
  obtain ⟨b1, b2⟩ := h.pb rfl
  exact ⟨hlow, fun _ => ⟨ownR_same d1 (fun k hk' => hk k (fun e => h.gd rfl rfl (e ▸ hk'))), fun k hk' => by have := d2 k hk'; omega⟩, fun _ => ⟨ownI_same c1 (fun k hk' => hk k (fun e => h.gc rfl rfl (e ▸ hk'))), fun k hk' => by have := c2 k hk'; omega⟩,
    fun _ => ⟨ownR_same a1 (fun k hk' => hk k (fun e => h.ga rfl rfl (e ▸ (by simpa [rblks] using hk')))), fun k hk' => by have := a2 k hk'; omega⟩, fun _ => ⟨ownI_same b1 (fun k hk' => hk k (fun e => h.gb rfl rfl (e ▸ hk'))), fun k hk' => by have := b2 k hk'; omega⟩,
    h.dc, h.da, h.db, h.ca, h.cb, h.ab, fun _ => ⟨g1, by omega, qf⟩, fun _ e => Bool.noConfusion e, fun _ => ⟨q0, q1, q2, q3⟩, h.gd, h.gc, h.ga, h.gb⟩
theorem DuR.prV (h : DuR W w' d c a b D C B us g true true true true true true) : PrV W.heap.size w' g d c a b D C [] B us [] := by
  obtain ⟨g1, g2, g3⟩ := h.box rfl
  obtain ⟨q0, q1, q2, q3⟩ := h.full rfl
  obtain ⟨d1, d2⟩ := h.pd rfl
  obtain ⟨c1, c2⟩ := h.pc rfl
  obtain ⟨a1, a2⟩ := h.pa rfl
  obtain ⟨b1, b2⟩ := h.pb rfl
  have e : blks a ++ rblks [] = blks a := by simp [rblks]
  exact ⟨⟨d1, c1, a1, b1, d2, c2, by rw [e]; exact a2, b2, h.dc rfl rfl, by rw [e]; exact h.da rfl rfl, h.db rfl rfl, by rw [e]; exact h.ca rfl rfl, h.cb rfl rfl, by rw [e]; exact h.ab rfl rfl⟩, q0, q1, q2, q3, g3, g2, g1, h.gd rfl rfl, h.gc rfl rfl, by rw [e]; exact h.ga rfl rfl, h.gb rfl rfl⟩
end
end Go.Proofs.Ytgncaploccbfnaa.PW
