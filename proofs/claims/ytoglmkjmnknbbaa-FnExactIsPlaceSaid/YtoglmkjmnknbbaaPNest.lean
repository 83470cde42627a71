/-
  A range over a function whose iterator may itself range over another one: what the consumer keeps is told by the types of its cells. No program is named here.
-/
import Derived.Test.YtoglmkjmnknbbaaPRoundC
import Derived.Test.YtoglmkjmnknbbaaPRoundB
import Derived.RangeFuncNested
namespace Go.Proofs.Ytoglmkjmnknbbaa.PR
open Go Go.RowKit

variable {F : Fence} {n : Nat} {P : Program}

/-- What a consumer keeps: all below lo; from hi on whatever is no cells; and all cells whose type is none of T. -/
structure Kept (T : TypeId → Prop) (lo hi : Nat) (A B : World) : Prop where
  below : Below lo A B
  other : KeepsFrom hi A B
  typed : ∀ (k : Nat) xs t fr, A.heap[k]? = some (.cells xs t fr) → ¬ T t → B.heap[k]? = some (.cells xs t fr)

theorem Kept.refl (T : TypeId → Prop) (lo hi : Nat) (A : World) : Kept T lo hi A A := ⟨Below.refl _ _, KeepsFrom.refl _ _, fun _ _ _ _ h _ => h⟩
theorem Kept.trans {T : TypeId → Prop} {lo hi : Nat} {A B C : World} (h : Kept T lo hi A B) (k : Kept T lo hi B C) : Kept T lo hi A C :=
  ⟨h.below.trans k.below, h.other.trans k.other, fun i xs t fr hi ht => k.typed i xs t fr (h.typed i xs t fr hi ht) ht⟩
theorem KeepsFrom.later {B B' : Nat} {A C : World} (h : KeepsFrom B A C) (hB : B ≤ B') : KeepsFrom B' A C := ⟨h.size, fun k o hk ha ho => h.same k o (Nat.le_trans hB hk) ha ho⟩
theorem Kept.later {T : TypeId → Prop} {lo hi hi' : Nat} {A B : World} (h : Kept T lo hi A B) (hh : hi ≤ hi') : Kept T lo hi' A B := ⟨h.below, KeepsFrom.later h.other hh, h.typed⟩
theorem Kept.lower {T : TypeId → Prop} {lo lo' hi : Nat} {A B : World} (h : Kept T lo hi A B) (hh : lo' ≤ lo) : Kept T lo' hi A B := ⟨h.below.mono hh, h.other, h.typed⟩
/-- What lies below a world's end keeps all. -/
theorem Kept.of_below {T : TypeId → Prop} {lo hi : Nat} {A B : World} (h : Below A.heap.size A B) (hl : lo ≤ A.heap.size) : Kept T lo hi A B :=
  ⟨h.mono hl, ⟨h.size, fun k _ _ ha _ => (h.block k (Array.getElem?_eq_some_iff.1 ha).1).trans ha⟩, fun k _ _ _ ha _ => (h.block k (Array.getElem?_eq_some_iff.1 ha).1).trans ha⟩
/-- The turn of a block that is no cells. -/
theorem Kept.putObj {T : TypeId → Prop} {lo hi : Nat} {A : World} {l : Nat} {o : Obj} (o' : Obj) (hl : A.heap[l]? = some o) (ho : o.isCells = false) (h1 : lo ≤ l) (h2 : l < hi) : Kept T lo hi A (A.putObj l o') :=
  ⟨(Below.refl lo A).grown (grownBy_putObj' A l o') (by have := (Array.getElem?_eq_some_iff.1 hl).1; omega) (fun k e => by cases e; omega), ⟨by simp, fun k x hk hx _ => (World.putObj_heap_other (by omega)).trans hx⟩, fun k _ _ _ hk _ => (World.putObj_heap_other (fun e => by
    subst e
    rw [hk] at hl
    cases hl
    cases ho)).trans hk⟩

/-- The contract of an iterator that may range itself. -/
def Nests {α : Type} (F : Fence) (n : Nat) (P : Program) (g : Nat) (lb : Array Value) (encs : α → Array Value) (T : TypeId → Prop) (lo : Nat) (E : α → World → Prop) (S : List α → Prop) (N : Nat) (w : World) : Prop :=
  ∀ (l : Nat) (J Jx : List α → World → Prop) (W : World), Below w.heap.size w W → OwnFrom W.heap.size J → OwnFrom W.heap.size Jx →
    (∀ pre x W1, J pre W1 → E x W1 → pre.length < N → YieldAt F (n - 1) P l (encs x) W1 fun e W' => ((e = .returned (.bool true) ∧ J (pre ++ [x]) W') ∨ (e = .returned (.bool false) ∧ Jx (pre ++ [x]) W')) ∧ Kept T lo W.heap.size W1 W') →
    J [] W → CallsIn F n P g (#[.func (.yield l) #[] #[]] ++ lb) W fun e W' => (∃ v, e = .returned v) ∧ ((∃ xs, S xs ∧ J xs W') ∨ (∃ pre, Jx pre W'))

/-- How a body may be left: it goes on, or the function returns. -/
def nestPost {α : Type} (T : TypeId → Prop) (lo hi : Nat) (I Ix : List α → World → Prop) (xs : List α) (W : World) : Exit → Act → World → Prop
  | .normal, _, W' => Kept T lo hi W W' ∧ I xs W'
  | .ret, _, W' => Kept T lo hi W W' ∧ Ix xs W'
  | _, _, _ => False

theorem wpIn_rangeFunc_nests {α : Type} {g : Operand} {ps : Array Tmp} {assign body : Code} {Q : Exit → Act → World → Prop} {a : Act} {w : World}
    (hro : F.round = none) (h1 : 1 ≤ n) {gf : Nat} {lb : Array Value} (hg : a.eval g = .func (.func gf) #[] lb) (hFg : F.fn gf) (eg : ∀ args w, (callFunc gf args).run P w = .ok (.enter gf args) w)
    {encs : α → Array Value} {T : TypeId → Prop} {lo : Nat} {E : α → World → Prop} {S : List α → Prop} {N : Nat} {w0 : World} (hseq : Nests F (n - 1) P gf lb encs T lo E S N w0)
    (hlo : lo ≤ w.heap.size) (hb0 : Below w0.heap.size w0 w) (hps : ∀ x, (encs x).size = ps.size)
    (hE : ∀ (x : α) (W : World) (l : Nat) (o o' : Obj), W.heap[l]? = some o → o.isCells = false → E x W → E x (W.putObj l o'))
    (I Ix : List α → World → Prop) (hI : OwnFrom w.heap.size I) (hIx : OwnFrom w.heap.size Ix) (h0 : I [] w) (a₁ : α → Act)
    (hassign : ∀ (l : Nat) (x : α) (W : World) (K : Act → World → Prop), K (a₁ x) W →
      assign.wpIn (F.inRound l) (n - 1 - 1) P (Exit.then K (fun _ _ _ => False)) { tmps := (ps.zip (encs x)).foldl (fun t (p, v) => t.setIfInBounds p v) a.tmps, defers := [] } W)
    (hbody : ∀ (l : Nat) (pre : List α) (x : α) (W : World), I pre W → E x W → pre.length < N → w.heap.size + 2 ≤ W.heap.size → body.wpIn (F.inRound l) (n - 1 - 1) P (nestPost T lo w.heap.size I Ix (pre ++ [x]) W) (a₁ x) W)
    (hdone : ∀ (D : Nat) (xs : List α) (W : World), w.heap.size ≤ D → S xs → I xs W → W.heap[D]? = some (.deferred (some [])) → Q .normal { a with defers := { target := .collected D, args := #[] } :: a.defers } W)
    (hstop : ∀ (D : Nat) (pre : List α) (W : World), w.heap.size ≤ D → Ix pre W → W.heap[D]? = some (.deferred (some [])) → Code.ret.wpIn F n P Q { a with defers := { target := .collected D, args := #[] } :: a.defers } W) :
    (Code.rangeFunc g ps assign body).wpIn F n P Q a w := by
  refine wpIn_rangeFunc (fun fn hfn => ?_)
  rw [hro]
  obtain ⟨b, hb⟩ : ∃ b, b = w.heap.size := ⟨_, rfl⟩
  obtain ⟨rc, hrc⟩ : ∃ rc : LoopState → Option Code → Loop, ∀ st pe, rc st pe = { state := st, pending := pe, fn, tmps := a.tmps, params := ps, assign, body, defers := w.heap.size } := ⟨_, fun _ _ => rfl⟩
  obtain ⟨V, hV⟩ : ∃ V, V = (w.alloc (.deferred (some []))).alloc (.loop (rc .ready none)) := ⟨_, rfl⟩
  have hVz : V.heap.size = b + 2 := by rw [hV, hb]; simp
  have hV1 : V.heap[b + 1]? = some (.loop (rc .ready none)) := by
    rw [hV, hb]
    have := World.alloc_heap_new (w.alloc (.deferred (some []))) (.loop (rc .ready none))
    rwa [World.size_alloc] at this
  have hV0 : V.heap[b]? = some (.deferred (some [])) := by
    rw [hV, hb]
    exact (Below.heap_alloc _ _ _ (by simp)).trans (World.alloc_heap_new w _)
  have hVI : I [] V := by rw [hV]; exact hI.alloc _ (hI.alloc _ h0)
  have hVB : Below w0.heap.size w0 V := by
    rw [hV]
    exact hb0.trans ((((Below.refl _ w).alloc (Nat.le_refl _) _).alloc (by simp) _).mono hb0.size)
  have hbI : OwnFrom b I := hb ▸ hI
  have hbX : OwnFrom b Ix := hb ▸ hIx
  have hnw : ∀ {A : World} {row : Option Nat}, (∀ r, row = some r → V.heap.size ≤ r ∧ ∃ o : Obj, A.heap[r]? = some o ∧ o.isCells = false) → (∀ r, row = some r → b ≤ r ∧ ∃ o : Obj, A.heap[r]? = some o ∧ o.isCells = false) := fun h r e => ⟨by have := (h r e).1; omega, (h r e).2⟩
  have hkeep : ∀ {A B : World} {row : Option Nat} (k : Nat) (o : Obj), k < b + 2 → A.grownBy B row → (∀ r, row = some r → V.heap.size ≤ r ∧ ∃ o : Obj, A.heap[r]? = some o ∧ o.isCells = false) → A.heap[k]? = some o → B.heap[k]? = some o := fun k _ hk hg hr ha =>
    (hg.block k (Array.getElem?_eq_some_iff.1 ha).1 (fun e => by have := (hr k e.symm).1; omega)).trans ha
  refine ⟨b + 1, [{ target := .collected b, args := #[] }], V, { target := .fn (.func gf) lb, args := #[.func (.yield (b + 1)) #[] #[]] }, V, gf, #[.func (.yield (b + 1)) #[] #[]] ++ lb, V, ?_, ?_, ?_, ?_, fun _ => h1, ?_⟩
  · rw [hV, hb, hrc]
    exact run_enterLoop_outer _ _ _ _ _
  · simp only [resolve, hg]
    simp [go_sem]
  · intro f' hf'
    simp [Target.leads] at hf'
    subst hf'
    exact hFg
  · simp [invoke, go_sem, eg]
  refine (hseq (b + 1) (fun pre W => (I pre W ∧ b + 2 ≤ W.heap.size) ∧ W.heap[b + 1]? = some (.loop (rc .ready none)) ∧ W.heap[b]? = some (.deferred (some [])))
    (fun pre W => Ix pre W ∧ W.heap[b + 1]? = some (.loop (rc .done (some .ret))) ∧ W.heap[b]? = some (.deferred (some []))) V hVB ?_ ?_ ?_ ⟨⟨hVI, by omega⟩, hV1, hV0⟩).mono ?_
  · intro s A B row hs hgr hr
    exact ⟨⟨hbI s A B row hs.1.1 hgr (hnw hr), Nat.le_trans hs.1.2 hgr.size⟩, hkeep _ _ (by omega) hgr hr hs.2.1, hkeep _ _ (by omega) hgr hr hs.2.2⟩
  · intro s A B row hs hgr hr
    exact ⟨hbX s A B row hs.1 hgr (hnw hr), hkeep _ _ (by omega) hgr hr hs.2.1, hkeep _ _ (by omega) hgr hr hs.2.2⟩
  · rintro pre x W ⟨⟨hi, hiz⟩, hl, hd⟩ hex hlen
    have hy := run_yield (P := P) (args := encs x) hl (by rw [hrc]; exact hps x)
    rw [hrc] at hy
    refine ⟨fn, _, assign, body, hy, roundIn_of_wpIn hfn (hassign _ x W _ ⟨_, run_beginRound hl (by rw [hrc]), ?_⟩)⟩
    obtain ⟨hl2, hd2⟩ := put_two (o' := .loop { rc .ready none with state := .busy }) hl hd
    have hk2 : Kept T lo (b + 2) W (W.putObj (b + 1) (.loop { rc .ready none with state := .busy })) := Kept.putObj _ hl rfl (by omega) (by omega)
    have hbd := hbody (b + 1) pre x (W.putObj (b + 1) (.loop { rc .ready none with state := .busy })) (hbI.putObj _ hi (by omega) hl rfl) (hE x W _ _ _ hl rfl hex) hlen (by simp; omega)
    rw [← hb] at hbd
    refine wpIn_mono hbd ?_
    rintro e a3 W3 hp
    cases e with
    | normal =>
      obtain ⟨k1, k3⟩ := hp
      have hl3 := k1.other.same _ _ (by omega) hl2 rfl
      have hd3 := k1.other.same _ _ (by omega) hd2 rfl
      obtain ⟨hl4, hd4⟩ := put_two (o' := .loop (rc .ready none)) hl3 hd3
      have hr := run_endRound (P := P) none hl3
      rw [hrc] at hr hl4 hl3
      refine ⟨_, _, hr, .inl ⟨rfl, ⟨hbI.putObj _ k3 (by omega) hl3 rfl, ?_⟩, ?_, ?_⟩, by rw [hVz]; exact (hk2.trans (k1.later (by omega))).trans (Kept.putObj _ hl3 rfl (by omega) (by omega))⟩
      · have := k1.other.size
        simp at this ⊢
        omega
      · rw [hrc]; exact World.putObj_heap_same (Array.getElem?_eq_some_iff.1 hl3).1
      · exact (World.putObj_heap_other (by omega)).trans hd3
    | ret =>
      obtain ⟨k1, k3⟩ := hp
      have hl3 := k1.other.same _ _ (by omega) hl2 rfl
      have hd3 := k1.other.same _ _ (by omega) hd2 rfl
      have hr := run_endRound (P := P) (some .ret) hl3
      rw [hrc] at hr hl3
      refine ⟨_, _, hr, .inr ⟨rfl, hbX.putObj _ k3 (by omega) hl3 rfl, ?_, ?_⟩, by rw [hVz]; exact (hk2.trans (k1.later (by omega))).trans (Kept.putObj _ hl3 rfl (by omega) (by omega))⟩
      · rw [hrc]; exact World.putObj_heap_same (Array.getElem?_eq_some_iff.1 hl3).1
      · exact (World.putObj_heap_other (by omega)).trans hd3
    | exit id => exact hp.elim
    | goto t => exact hp.elim
    | panic ch => exact hp.elim
    | outgrown => exact hp.elim
  · rintro e W2 ⟨⟨v, rfl⟩, (⟨xs, hS, ⟨hi, _⟩, hl, hd⟩ | ⟨pre, hi, hl, hd⟩)⟩
    · have hr := run_endLoop (P := P) hl (by rw [hrc]; simp)
      rw [hrc] at hr
      exact ⟨none, _, hr, hdone b xs _ (by omega) hS (hbI.putObj _ hi (by omega) hl rfl) ((World.putObj_heap_other (by omega)).trans hd)⟩
    · have hr := run_endLoop (P := P) hl (by rw [hrc]; simp)
      rw [hrc] at hr
      exact ⟨some .ret, _, hr, hstop b pre _ (by omega) (hbX.putObj _ hi (by omega) hl rfl) ((World.putObj_heap_other (by omega)).trans hd)⟩

/-- An append into a variable's box leaves the cells of other types. -/
theorem appended_typed {W w1 : World} {n₀ B : Nat} {t e : TypeId} {size : Nat} {v v' : Value} {k : Nat} {xs : List Value} {tmp : Obj} {T : TypeId → Prop}
    (hv : Boxed W B t v) (hrow : W.ownsRow n₀ e size v k xs) (hgrow : (W.alloc tmp).grownBy w1 v.ownBlock) (hTt : T t) (hTe : T e) :
    ∀ (j : Nat) ys t' fr, W.heap[j]? = some (.cells ys t' fr) → ¬ T t' → (w1.setCell ⟨B, 0, none⟩ v').heap[j]? = some (.cells ys t' fr) := by
  intro j ys t' fr hj hT
  have hjz := (Array.getElem?_eq_some_iff.1 hj).1
  have hB : j ≠ B := fun c => by
    subst c
    rw [show W.heap[j]? = _ from hv] at hj
    cases hj
    exact hT hTt
  refine (Below.heap_setCell w1 ⟨B, 0, none⟩ v' j hB).trans ((hgrow.block j (by simp; omega) (fun c => ?_)).trans ((Below.heap_alloc W tmp j hjz).trans hj))
  rcases hrow.2 with ⟨hv2, _⟩ | ⟨g, cap, cur, hv2, _, hgb, _⟩
  · rw [hv2] at c; simp [Value.ownBlock] at c
  · rw [hv2] at c
    simp [Value.ownBlock] at c
    subst c
    rw [hgb] at hj
    cases hj
    exact hT hTe

/-- A store into a variable's box. -/
theorem Kept.setBox {T : TypeId → Prop} {lo hi : Nat} {W : World} {B : Nat} {t : TypeId} {v : Value} (h : Boxed W B t v) (v' : Value) (hT : T t) (hlo : lo ≤ B) : Kept T lo hi W (W.setCell ⟨B, 0, none⟩ v') :=
  ⟨(Below.refl lo W).setCell (p := ⟨B, 0, none⟩) hlo v', (KeepsOthers.setCell W _ _).from _, fun k _ _ _ hk ht => (Below.heap_setCell W ⟨B, 0, none⟩ v' k (fun c => by
    subst c
    rw [show W.heap[k]? = _ from h] at hk
    cases hk
    exact ht hT)).trans hk⟩

theorem nests_wide {α : Type} {m k : Nat} {g : Nat} {lb : Array Value} {encs : α → Array Value} {T : TypeId → Prop} {lo : Nat} {E : α → World → Prop} {S : List α → Prop} {N : Nat} {w : World}
    (h : Nests Fence.wide m P g lb encs T lo E S N w) : Nests Fence.wide k P g lb encs T lo E S N w := fun l J Jx W hW hJ hJx hY h0 =>
  callsIn_wide.2 (callsIn_wide.1 (h l J Jx W hW hJ hJx (fun pre x W1 a b c => yieldAt_wide (hY pre x W1 a b c)) h0))
theorem yieldAt_inRound {m : Nat} {l l' : Nat} {args : Array Value} {W : World} {R : Ending → World → Prop} (h : YieldAt F m P l args W R) : YieldAt (F.inRound l') m P l args W R := h
end Go.Proofs.Ytoglmkjmnknbbaa.PR
