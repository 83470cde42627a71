/-
  Walks: an orientation whose list is built by append behind a variable: what stands, and its step.
-/
import Derived.Test.YtoglmkjmnknbbaaCMir
import Derived.Test.YtoglmkjmnknbbaaPRoundB
namespace Go.Proofs.Ytoglmkjmnknbbaa.PW
open Go.RowKit Go.Proofs.Ytoglmkjmnknbbaa
open Go.Proofs.Ytoglmkjmnknbbaa.PM

/-- The variable P holds an orientation whose list has been built so far. -/
structure CbO (B : Nat) (w0 wr : World) (P : Nat) (D : Int) (g n cap : Nat) (xs : List Int) : Prop where
  c0 : wr.cell? ⟨P, 0, none⟩ = some (.int .i64 D)
  c1 : wr.cell? ⟨P, 1, none⟩ = some (.slice (some ⟨g, 0, none⟩) n cap)
  fz : ∀ o, wr.frozen? ⟨P, o, none⟩ = false
  pb : B ≤ P ∧ P < wr.heap.size
  own : FreshI B wr (.slice (some ⟨g, 0, none⟩) n cap) xs
  ne : g ≠ P
  low : Below B w0 wr
theorem news_one' {w : World} {h : Nat} {x : Value} (hc : w.cell? ⟨h, 0, none⟩ = some x) : ∀ (j : Nat) (u : Value), [x][j]? = some u → w.cell? ((⟨h, 0, none⟩ : Addr).add j) = some u := by
  intro j u hu
  rcases j with _ | j
  · simp at hu
    subst hu
    have e : (⟨h, 0, none⟩ : Addr).add 0 = ⟨h, 0, none⟩ := by simp [Addr.add]
    rw [e]
    exact hc
  · simp at hu
theorem CbO.start (B : Nat) (w1 : World) (D : Int) (t : TypeId) (h : B ≤ w1.heap.size) (w0 : World) (hb : Below B w0 w1) :
    CbO B w0 ((w1.alloc (.cells #[] 2)).alloc (.cells #[.int .i64 D, .slice (some ⟨w1.heap.size, 0, none⟩) 0 0] t)) (w1.heap.size + 1) D w1.heap.size 0 0 [] := by
  refine ⟨?_, ?_, fun o => by simp [go_sem], ⟨by omega, by simp⟩, ((freshI_nil w1).below ((Below.refl _ _).alloc (Nat.le_refl _) _)).mono h, by omega, (hb.alloc h _).alloc (by simp; omega) _⟩
  · have := World.cell?_alloc_new (w := w1.alloc (.cells #[] 2)) #[.int .i64 D, .slice (some ⟨w1.heap.size, 0, none⟩) 0 0] t 0
    rw [World.size_alloc] at this
    rw [this]; rfl
  · have := World.cell?_alloc_new (w := w1.alloc (.cells #[] 2)) #[.int .i64 D, .slice (some ⟨w1.heap.size, 0, none⟩) 0 0] t 1
    rw [World.size_alloc] at this
    rw [this]; rfl
/-- While a number is appended: what has been laid. -/
structure MsR (W w' : World) (P : Nat) (u : Value) (L : Nat) (S : List Int) (x : Int) (v' : Value) (h : Nat) (b1 b2 b3 : Bool) : Prop where
  low : b2 = false → Below W.heap.size W w'
  box : b1 = true → b2 = false → w'.cell? ⟨h, 0, none⟩ = some (.int .i64 x)
  app : b2 = true → ∃ w3 w4 g2 cap, v' = .slice (some ⟨g2, 0, none⟩) (L + 1) cap ∧ Below W.heap.size W w3 ∧ w4.ownsRow 0 2 1 (.slice (some ⟨g2, 0, none⟩) (L + 1) cap) (L + 1) (S.map (Value.int .i64) ++ [.int .i64 x]) ∧
    w3.grownBy w4 u.ownBlock ∧ (u.ownBlock = some g2 ∨ g2 = w3.heap.size) ∧ g2 < w4.heap.size ∧ w' = cond b3 (w4.setCell ⟨P, 1, none⟩ (.slice (some ⟨g2, 0, none⟩) (L + 1) cap)) w4
theorem MsR.box_ {W w' : World} {P L h : Nat} {u v' : Value} {S : List Int} {x : Int} (hR : MsR W w' P u L S x v' h false false false) : MsR W (w'.alloc (.cells #[.int .i64 x] 2)) P u L S x v' w'.heap.size true false false :=
  ⟨fun _ => (hR.low rfl).trans (((Below.refl _ _).alloc (Nat.le_refl _) _).mono (hR.low rfl).size), fun _ _ => by simp, fun e => (by cases e)⟩
theorem MsR.app_ {W w' w'' : World} {P L h g2 cap : Nat} {u v' : Value} {S : List Int} {x : Int} (hR : MsR W w' P u L S x v' h true false false)
    (hown : w''.ownsRow 0 2 1 (.slice (some ⟨g2, 0, none⟩) (L + 1) cap) (L + 1) (S.map (Value.int .i64) ++ [.int .i64 x])) (hgrow : w'.grownBy w'' u.ownBlock) (hat : u.ownBlock = some g2 ∨ g2 = w'.heap.size) (hgl : g2 < w''.heap.size) :
    MsR W w'' P u L S x (.slice (some ⟨g2, 0, none⟩) (L + 1) cap) h true true false :=
  ⟨fun e => (by cases e), fun _ e => (by cases e), fun _ => ⟨w', w'', g2, cap, rfl, hR.low rfl, hown, hgrow, hat, hgl, rfl⟩⟩
theorem MsR.store_ {W w' : World} {P L h g2 cap : Nat} {u : Value} {S : List Int} {x : Int} (hR : MsR W w' P u L S x (.slice (some ⟨g2, 0, none⟩) (L + 1) cap) h true true false) :
    MsR W (w'.setCell ⟨P, 1, none⟩ (.slice (some ⟨g2, 0, none⟩) (L + 1) cap)) P u L S x (.slice (some ⟨g2, 0, none⟩) (L + 1) cap) h true true true := by
  obtain ⟨w3, w4, g3, cap3, hv, h1, h2, h3, h4, h5, h6⟩ := hR.app rfl
  simp only [Value.slice.injEq, Option.some.injEq, Addr.mk.injEq, and_true, true_and] at hv
  obtain ⟨rfl, rfl⟩ := hv
  simp only [cond_false] at h6
  subst h6
  exact ⟨fun e => (by cases e), fun _ e => (by cases e), fun _ => ⟨w3, w', g2, cap, rfl, h1, h2, h3, h4, h5, rfl⟩⟩
/-- The append's value lies anew in the variable. -/
theorem CbO.next {B : Nat} {w0 W w3 w4 : World} {P : Nat} {D : Int} {g n cap g2 cap2 : Nat} {xs : List Int} {x : Int} (h : CbO B w0 W P D g n cap xs) (hn : n = xs.length) (h3 : Below W.heap.size W w3)
    (hown : w4.ownsRow 0 2 1 (.slice (some ⟨g2, 0, none⟩) (n + 1) cap2) (n + 1) (xs.map (Value.int .i64) ++ [.int .i64 x])) (hgr : w3.grownBy w4 (Value.slice (some ⟨g, 0, none⟩) n cap).ownBlock)
    (hat : (Value.slice (some ⟨g, 0, none⟩) n cap).ownBlock = some g2 ∨ g2 = w3.heap.size) (hgl : g2 < w4.heap.size) :
    CbO B w0 (w4.setCell ⟨P, 1, none⟩ (.slice (some ⟨g2, 0, none⟩) (n + 1) cap2)) P D g2 (n + 1) cap2 (xs ++ [x]) := by
  obtain ⟨hp1, hp2⟩ := h.pb
  have z3 := h3.size
  have z4 := hgr.size
  have hg2 : g2 ≠ P ∧ B ≤ g2 := by
    rcases hat with e | e
    · simp [Value.ownBlock] at e
      subst e
      obtain ⟨gv, cv, hv, f1, f2, _⟩ := h.own
      simp only [Value.slice.injEq, Option.some.injEq, Addr.mk.injEq, and_true] at hv
      obtain ⟨rfl, _⟩ := hv
      exact ⟨h.ne, f1⟩
    · exact ⟨by omega, by omega⟩
  have hblk := (hgr.block P (by omega) (fun e => h.ne (by simpa [Value.ownBlock] using e.symm))).trans (h3.block P hp2)
  have k0 := (World.cell?_of_block (w := W) (a := ⟨P, 0, none⟩) hblk).trans h.c0
  have k1 := (World.cell?_of_block (w := W) (a := ⟨P, 1, none⟩) hblk).trans h.c1
  have kf := fun o => (World.frozen?_of_block (w := W) (a := ⟨P, o, none⟩) hblk).trans (h.fz o)
  refine ⟨by simpa [go_sem] using k0, World.cell?_setCell_same _ _ _ k1, fun o => by simpa using kf o, ⟨hp1, by simp; omega⟩, ⟨g2, cap2, by simp [hn], hg2.2, by simpa using hgl, ?_⟩, hg2.1, ?_⟩
  · have h1 : OwnI w4 (.slice (some ⟨g2, 0, none⟩) (n + 1) cap2) (xs ++ [x]) := by
      have := own_base' hown
      unfold OwnI
      subst hn
      simpa using this
    exact h1.tch ((Tch.refl [P] _).setCell (by simp) _) (fun b hb c => by simp [Value.ownBlock] at hb c; exact hg2.1 (by rw [hb, c]))
  · refine Below.setCell ?_ hp1 _
    exact (h.low.trans (h3.mono (by omega))).grown hgr (by omega) (fun b hb => by
      simp [Value.ownBlock] at hb
      subst hb
      obtain ⟨gv, cv, hv, f1, _, _⟩ := h.own
      simp only [Value.slice.injEq, Option.some.injEq, Addr.mk.injEq, and_true] at hv
      obtain ⟨rfl, _⟩ := hv
      exact f1)
end Go.Proofs.Ytoglmkjmnknbbaa.PW
namespace Go.Proofs.Ytoglmkjmnknbbaa.PR
open Go.RowKit Go.Proofs.Ytoglmkjmnknbbaa
attribute [local go_sem] Oper.semAt_some
variable {F : Fence} {n : Nat} {P : Program} {ops : Array Oper} {Q : Exit → Act → World → Prop}
/-- An append inside a region that draws its order, with the block that it lies in. -/
theorem stepIn_append_at (w : World) {o : Oper} {a : Act} {K : Act → World → Prop} {E : Prop}
    (hg : o.guard = none) (s x : Operand) (t : TypeId) (hop : o.op = Op.call { callee := Callee.builtin Builtin.append, args := #[s, x], argTypes := #[t, t] })
    (base : Nat) (e : TypeId) (i : TypeInfo) (z : Value) (size bytes : Nat) (h1 : P.underlying t = some (.slice e)) (h2 : P.info? e = some i) (h3 : i.zero = some z) (h4 : i.size = size) (h5 : i.bytes = bytes) (h6 : z.cells.size = size) (h7 : 0 < size)
    (v : Value) (k : Nat) (xs : List Value) (hs : a.eval s = v) (hown : w.ownsRow base e size v k xs) (ad : Addr) (m c : Nat) (news : List Value) (hx : a.eval x = .slice (some ad) m c) (hn : news.length = m * size)
    (hc : ∀ j u, news[j]? = some u → w.cell? (ad.add j) = some u) (h1c : ∀ u ∈ news, u.oneCell' = true) (hm : 0 < m) (b1 : k + m ≤ maxLen) (b2 : (k + m) * bytes ≤ 140737488355328) (b3 : base ≤ w.heap.size)
    (hK : ∀ g cap w', w'.ownsRow base e size (.slice (some ⟨g, 0, none⟩) (k + m) cap) (k + m) (xs ++ news) → w.grownBy w' v.ownBlock → (v.ownBlock = some g ∨ g = w.heap.size) → g < w'.heap.size → K (a.put o.dst (.slice (some ⟨g, 0, none⟩) (k + m) cap)) w') :
    if Region.wanted o (yielded ops a.tmps) = true then Oper.wpIn F n P o a w K Q else E := by
  have hw : Region.wanted o (yielded ops a.tmps) = true := by simp [Region.wanted, hg]
  rw [if_pos hw]
  obtain ⟨g, cap, w', hrun, r1, r2, r3, r4⟩ := run_append_lies (P := P) (w := w) t o.type base e i z size bytes h1 h2 h3 h4 h5 h6 h7 v k xs hown ad m c news hn hc h1c hm b1 b2 b3 w.heap.size rfl
  unfold Oper.wpIn
  refine ⟨?_, ?_⟩
  · simp [Oper.about, hop, resolve, Target.leads, Sem.run_pure]
  · rw [Oper.semAt_plain F _ _ (by rw [hop]; intro c hc'; cases hc')]
    simp [execOp, hop, resolve, invoke, builtin, hs, hx, hrun, Result.andThen]
    exact hK _ _ _ r1 r2 r3 r4
end Go.Proofs.Ytoglmkjmnknbbaa.PR
