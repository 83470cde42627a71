/-
  A program in memory while it is built behind a variable: its four parts lie apart, in blocks from B on; a row or a number is appended to one of them.
-/
import Derived.Test.YtgncaploccbfnaaWPrg
import Derived.Test.YtgncaploccbfnaaPPg
namespace Go.Proofs.Ytgncaploccbfnaa.PW
open Go.RowKit Go.Proofs.Ytgncaploccbfnaa
open Go.Proofs.Ytgncaploccbfnaa.PM Go.Proofs.Ytgncaploccbfnaa.PX

theorem ownR_same {w w' : World} {v : Value} {xss : List (List Int)} {us : List Value} (h : OwnR w v xss us) (hk : ∀ k, k ∈ blks v ++ rblks us → w'.heap[k]? = w.heap[k]?) : OwnR w' v xss us :=
  ⟨h.len, own_keep h.top (fun b hb => hk b (List.mem_append.2 (.inl (mem_blks'.2 hb)))), fun i hi => own_keep (h.rows i hi) (fun b hb => hk b (List.mem_append.2 (.inr (mem_rblks (by rw [h.len]; exact hi) hb)))), h.apart, h.over⟩
theorem ownI_same {w w' : World} {v : Value} {xs : List Int} (h : OwnI w v xs) (hk : ∀ k, k ∈ blks v → w'.heap[k]? = w.heap[k]?) : OwnI w' v xs := own_keep h (fun b hb => hk b (mem_blks'.2 hb))
theorem ownRs_of {B hi : Nat} {w : World} {v : Value} {xss : List (List Int)} {us : List Value} (h : OwnR w v xss us) (hb : ∀ k, k ∈ blks v ++ rblks us → B ≤ k ∧ k < hi) (hh : hi ≤ w.heap.size) : OwnRs B w v xss us :=
  ⟨h, fun b hb' => by have := hb b (List.mem_append.2 (.inl (mem_blks'.2 hb'))); omega, fun i b hi' hb' => by have := hb b (List.mem_append.2 (.inr (mem_rblks (by rw [h.len]; exact hi') hb'))); omega⟩
theorem ownRs_blks {B : Nat} {w : World} {v : Value} {xss : List (List Int)} {us : List Value} (h : OwnRs B w v xss us) : ∀ k, k ∈ blks v ++ rblks us → B ≤ k ∧ k < w.heap.size := fun k hk => by
  rcases List.mem_append.1 hk with hk | hk
  · exact h.mb k (mem_blks'.1 hk)
  · obtain ⟨i, hi, hb⟩ := of_mem_rblks hk
    exact h.ub i k (by rw [← h.rows.len]; exact hi) hb
theorem freshI_blks {B : Nat} {w : World} {v : Value} {xs : List Int} (h : FreshI B w v xs) : ∀ k, k ∈ blks v → B ≤ k ∧ k < w.heap.size := fun k hk => by
  obtain ⟨g, c, rfl, h1, h2, _⟩ := h
  simp [blks, Value.ownBlock] at hk
  omega
theorem rblks_snoc (us : List Value) (u : Value) : rblks (us ++ [u]) = rblks us ++ blks u := by simp [rblks]

/-- A program behind the variable at N. -/
structure PrV (B0 : Nat) (wr : World) (N : Nat) (d c a b : Value) (D : List (List Int)) (C : List Int) (A : List (List Int)) (B : List Int) (us vs : List Value) : Prop where
  rng : RngW B0 wr.heap.size wr d c a b D C A B (us, vs)
  k0 : wr.cell? ⟨N, 0, none⟩ = some d
  k1 : wr.cell? ⟨N, 1, none⟩ = some c
  k2 : wr.cell? ⟨N, 2, none⟩ = some a
  k3 : wr.cell? ⟨N, 3, none⟩ = some b
  fz : ∀ o, wr.frozen? ⟨N, o, none⟩ = false
  lt : N < wr.heap.size
  BN : B0 ≤ N
  nd : N ∉ blks d ++ rblks us
  nc : N ∉ blks c
  na : N ∉ blks a ++ rblks vs
  nb : N ∉ blks b
section
variable {B0 : Nat} {wr w2 W3 W4 : World} {N : Nat} {d c a b : Value} {D : List (List Int)} {C : List Int} {A : List (List Int)} {B : List Int} {us vs : List Value}
theorem RngW.same {lo hi hi' : Nat} (h : RngW lo hi wr d c a b D C A B (us, vs)) (hk : ∀ k, lo ≤ k → k < hi → w2.heap[k]? = wr.heap[k]?) (hh : hi ≤ hi') : RngW lo hi' w2 d c a b D C A B (us, vs) :=
  ⟨ownR_same h.od (fun k h1 => hk k (h.bd k h1).1 (h.bd k h1).2), ownI_same h.oc (fun k h1 => hk k (h.bc k h1).1 (h.bc k h1).2), ownR_same h.oa (fun k h1 => hk k (h.ba k h1).1 (h.ba k h1).2), ownI_same h.ob (fun k h1 => hk k (h.bb k h1).1 (h.bb k h1).2),
    fun k h1 => ⟨(h.bd k h1).1, Nat.lt_of_lt_of_le (h.bd k h1).2 hh⟩, fun k h1 => ⟨(h.bc k h1).1, Nat.lt_of_lt_of_le (h.bc k h1).2 hh⟩, fun k h1 => ⟨(h.ba k h1).1, Nat.lt_of_lt_of_le (h.ba k h1).2 hh⟩, fun k h1 => ⟨(h.bb k h1).1, Nat.lt_of_lt_of_le (h.bb k h1).2 hh⟩,
    h.dc, h.da, h.db, h.ca, h.cb, h.ab⟩
theorem PrV.below (h : PrV B0 wr N d c a b D C A B us vs) (hb : Below wr.heap.size wr w2) : PrV B0 w2 N d c a b D C A B us vs :=
  ⟨h.rng.same (fun k _ hk => hb.block k hk) hb.size, (hb.cell (p := ⟨N, 0, none⟩) h.lt).trans h.k0, (hb.cell (p := ⟨N, 1, none⟩) h.lt).trans h.k1, (hb.cell (p := ⟨N, 2, none⟩) h.lt).trans h.k2, (hb.cell (p := ⟨N, 3, none⟩) h.lt).trans h.k3,
    fun o => (hb.frozen (p := ⟨N, o, none⟩) h.lt).trans (h.fz o), Nat.lt_of_lt_of_le h.lt hb.size, h.BN, h.nd, h.nc, h.na, h.nb⟩
/-- The variable's cells behind an append to a list in another block. -/
theorem PrV.far {row : Option Nat} (h : PrV B0 wr N d c a b D C A B us vs) (hb : Below wr.heap.size wr W3) (hgrow : W3.grownBy W4 row) (hr : row ≠ some N) :
    N < W4.heap.size ∧ (∀ o, W4.cell? ⟨N, o, none⟩ = wr.cell? ⟨N, o, none⟩) ∧ ∀ o, W4.frozen? ⟨N, o, none⟩ = false := by
  have hz3 := hb.size
  have hz4 := hgrow.size
  have hlt := h.lt
  have hN : W4.heap[N]? = wr.heap[N]? := (hgrow.block N (by omega) (fun c => hr c.symm)).trans (hb.block N hlt)
  exact ⟨by omega, fun o => World.cell?_of_block (w := wr) (a := ⟨N, o, none⟩) hN, fun o => (World.frozen?_of_block (w := wr) (a := ⟨N, o, none⟩) hN).trans (h.fz o)⟩
theorem PrV.aN (h : PrV B0 wr N d c a b D C A B us vs) : a.ownBlock ≠ some N := fun e => h.na (List.mem_append.2 (.inl (mem_blks'.2 e)))
/-- A row is appended to A. -/
theorem PrV.rowA {K g cap k X : Nat} {u : Value} {xs : List Int} (h : PrV B0 wr N d c a b D C A B us vs) (hb : Below wr.heap.size wr W3) (hf : FreshI X W3 u xs) (hX : wr.heap.size ≤ X) (hk : A.length = k)
    (hown : W4.ownsRow K 23 1 (.slice (some ⟨g, 0, none⟩) (k + 1) cap) (k + 1) (vs ++ [u])) (hgrow : W3.grownBy W4 a.ownBlock) (hat : a.ownBlock = some g ∨ g = W3.heap.size) (hgl : g < W4.heap.size) :
    PrV B0 (W4.setCell ⟨N, 2, none⟩ (.slice (some ⟨g, 0, none⟩) (k + 1) cap)) N d c (.slice (some ⟨g, 0, none⟩) (k + 1) cap) b D C (A ++ [xs]) B us (vs ++ [u]) := by
  subst hk
  have hz3 := hb.size
  have hz4 := hgrow.size
  have hlt := h.lt
  have hBN := h.BN
  have hr := h.rng
  obtain ⟨f1, f2, f3⟩ := h.far hb hgrow h.aN
  have hub := freshI_blks hf
  have hga : B0 ≤ g ∧ (g ∈ blks a ∨ g = W3.heap.size) := by
    rcases hat with e | e
    · exact ⟨(hr.ba g (List.mem_append.2 (.inl (mem_blks'.2 e)))).1, .inl (mem_blks'.2 e)⟩
    · exact ⟨by omega, .inr e⟩
  have hgN : g ≠ N := fun e => by
    rcases hga.2 with e2 | e2
    · exact h.na (List.mem_append.2 (.inl (e ▸ e2)))
    · omega
  -- what stands of the old blocks
  have hold : ∀ x, x < wr.heap.size → x ∉ blks a → x ≠ N → (W4.setCell ⟨N, 2, none⟩ (.slice (some ⟨g, 0, none⟩) (A.length + 1) cap)).heap[x]? = wr.heap[x]? := fun x hx hxa hxN =>
    (Below.heap_setCell _ _ _ _ hxN).trans ((hgrow.block x (by omega) (fun e => hxa (mem_blks'.2 e.symm))).trans (hb.block x hx))
  have hpush := (ownRs_of hr.oa hr.ba (Nat.le_refl _)).push (W3 := W3) (W4 := W4) (v' := .slice (some ⟨g, 0, none⟩) (A.length + 1) cap) (by omega) hb (xs := xs) (u := u) (by obtain ⟨_, _, _, _, _, ho⟩ := hf; exact ho)
    (fun x hx => by have := hub x (mem_blks'.2 hx); omega) (own_based (own_base' hown) (fun x hx => by simp [Value.ownBlock] at hx; omega)) hgrow
  have hnew : ∀ x, x ∈ blks (.slice (some ⟨g, 0, none⟩) (A.length + 1) cap) ++ rblks (vs ++ [u]) → x ≠ N ∧ (x ∈ blks a ++ rblks vs ∨ wr.heap.size ≤ x) := fun x hx => by
    rcases List.mem_append.1 hx with hx | hx
    · simp [blks, Value.ownBlock] at hx
      subst hx
      rcases hga.2 with e | e
      · exact ⟨hgN, .inl (List.mem_append.2 (.inl e))⟩
      · exact ⟨hgN, .inr (by omega)⟩
    · rw [rblks_snoc] at hx
      rcases List.mem_append.1 hx with hx | hx
      · exact ⟨fun e => h.na (List.mem_append.2 (.inr (e ▸ hx))), .inl (List.mem_append.2 (.inr hx))⟩
      · have := hub x hx
        exact ⟨by omega, .inr (by omega)⟩
  have hbn := ownRs_blks hpush
  have hz5 : (W4.setCell ⟨N, 2, none⟩ (.slice (some ⟨g, 0, none⟩) (A.length + 1) cap)).heap.size = W4.heap.size := by simp
  have oa' : OwnR (W4.setCell ⟨N, 2, none⟩ (.slice (some ⟨g, 0, none⟩) (A.length + 1) cap)) (.slice (some ⟨g, 0, none⟩) (A.length + 1) cap) (A ++ [xs]) (vs ++ [u]) :=
    ownR_same hpush.rows (fun x hx => Below.heap_setCell _ _ _ _ (hnew x hx).1)
  refine ⟨⟨ownR_same hr.od (fun x hx => hold x (hr.bd x hx).2 (fun e => hr.da x hx (List.mem_append.2 (.inl e))) (fun e => h.nd (e ▸ hx))), ownI_same hr.oc (fun x hx => hold x (hr.bc x hx).2 (fun e => hr.ca x hx (List.mem_append.2 (.inl e))) (fun e => h.nc (e ▸ hx))), oa',
      ownI_same hr.ob (fun x hx => hold x (hr.bb x hx).2 (fun e => hr.ab x (List.mem_append.2 (.inl e)) hx) (fun e => h.nb (e ▸ hx))),
      fun x hx => by have := hr.bd x hx; rw [hz5]; omega, fun x hx => by have := hr.bc x hx; rw [hz5]; omega, fun x hx => by rw [hz5]; exact hbn x hx, fun x hx => by have := hr.bb x hx; rw [hz5]; omega,
      hr.dc, fun x hx hy => ?_, hr.db, fun x hx hy => ?_, hr.cb, fun x hx hy => ?_⟩, ?_, ?_, ?_, ?_, fun o => by simpa using f3 o, by simpa using f1, hBN, h.nd, h.nc, fun hx => (hnew N hx).1 rfl, h.nb⟩
  · rcases (hnew x hy).2 with e | e
    · exact hr.da x hx e
    · have := hr.bd x hx; omega
  · rcases (hnew x hy).2 with e | e
    · exact hr.ca x hx e
    · have := hr.bc x hx; omega
  · rcases (hnew x hx).2 with e | e
    · exact hr.ab x e hy
    · have := hr.bb x hy; omega
  · rw [World.cell?_setCell_other _ _ _ _ (by simp), f2]; exact h.k0
  · rw [World.cell?_setCell_other _ _ _ _ (by simp), f2]; exact h.k1
  · exact World.cell?_setCell_same _ _ _ ((f2 2).trans h.k2)
  · rw [World.cell?_setCell_other _ _ _ _ (by simp), f2]; exact h.k3
end
end Go.Proofs.Ytgncaploccbfnaa.PW
