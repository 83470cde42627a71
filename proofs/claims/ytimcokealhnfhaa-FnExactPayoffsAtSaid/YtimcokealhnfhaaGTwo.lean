/-
  Two tables in memory while they are built behind a variable: a row appended to one of them.
-/
import Derived.Test.YtimcokealhnfhaaGTurn
import Derived.Test.YtimcokealhnfhaaGTab
import Derived.Test.YtimcokealhnfhaaQOwn
import Derived.Test.YtimcokealhnfhaaPRoundB
namespace Go.Proofs.Ytimcokealhnfhaa.PW
open Go.RowKit Go.Proofs.Ytimcokealhnfhaa
open Go.Proofs.Ytimcokealhnfhaa.PM

theorem OwnRs.keepG {W W' : World} {B : Nat} {v : Value} {xss : List (List Int)} {us : List Value} (h : OwnRs B W v xss us) (hz : W.heap.size ≤ W'.heap.size) (hv : ∀ b, v.ownBlock = some b → W'.heap[b]? = W.heap[b]?)
    (hu : ∀ i b, i < xss.length → (us.getD i undef).ownBlock = some b → W'.heap[b]? = W.heap[b]?) : OwnRs B W' v xss us := by
  obtain ⟨⟨h1, h2, h3, h4, h5⟩, hm, hr⟩ := h
  exact ⟨⟨h1, own_keep h2 hv, fun i hi => own_keep (h3 i hi) (fun b hb => hu i b hi hb), h4, h5⟩, fun b hb => ⟨(hm b hb).1, Nat.lt_of_lt_of_le (hm b hb).2 hz⟩, fun i b hi hb => ⟨(hr i b hi hb).1, Nat.lt_of_lt_of_le (hr i b hi hb).2 hz⟩⟩
/-- A block of a table. -/
def inB (v : Value) (us : List Value) (n b : Nat) : Prop := v.ownBlock = some b ∨ ∃ i, i < n ∧ (us.getD i undef).ownBlock = some b
theorem OwnRs.inb {B : Nat} {w : World} {v : Value} {xss : List (List Int)} {us : List Value} (h : OwnRs B w v xss us) {b : Nat} (hb : inB v us xss.length b) : B ≤ b ∧ b < w.heap.size := by
  rcases hb with hb | ⟨i, hi, hb⟩
  · exact h.mb b hb
  · exact h.ub i b hi hb
theorem OwnRs.keepI {W W' : World} {B : Nat} {v : Value} {xss : List (List Int)} {us : List Value} (h : OwnRs B W v xss us) (hz : W.heap.size ≤ W'.heap.size) (hv : ∀ b, inB v us xss.length b → W'.heap[b]? = W.heap[b]?) : OwnRs B W' v xss us :=
  h.keepG hz (fun b hb => hv b (.inl hb)) (fun i b hi hb => hv b (.inr ⟨i, hi, hb⟩))
/-- Two tables behind the variable at N, in its cells o and p. -/
structure TwG (B : Nat) (wr : World) (N o p : Nat) (v q : Value) (R S : List (List Int)) (us vs : List Value) : Prop where
  fst : OwnRs B wr v R us
  snd : OwnRs B wr q S vs
  ap : ∀ b, inB v us R.length b → inB q vs S.length b → False
  c1 : wr.cell? ⟨N, o, none⟩ = some v
  c2 : wr.cell? ⟨N, p, none⟩ = some q
  nf : ∀ o, wr.frozen? ⟨N, o, none⟩ = false
  lt : N < wr.heap.size
  n1 : ¬ inB v us R.length N
  n2 : ¬ inB q vs S.length N
  BN : B ≤ N
  op : o ≠ p
theorem TwG.swap {B N o p : Nat} {wr : World} {v q : Value} {R S : List (List Int)} {us vs : List Value} (h : TwG B wr N o p v q R S us vs) : TwG B wr N p o q v S R vs us :=
  ⟨h.snd, h.fst, fun b h1 h2 => h.ap b h2 h1, h.c2, h.c1, h.nf, h.lt, h.n2, h.n1, h.BN, h.op.symm⟩
theorem TwG.below {B N o p : Nat} {wr w2 : World} {v q : Value} {R S : List (List Int)} {us vs : List Value} (h : TwG B wr N o p v q R S us vs) (hb : Below wr.heap.size wr w2) : TwG B w2 N o p v q R S us vs :=
  ⟨h.fst.keepI hb.size (fun b hb' => hb.block b (h.fst.inb hb').2), h.snd.keepI hb.size (fun b hb' => hb.block b (h.snd.inb hb').2), h.ap, (hb.cell (p := ⟨N, o, none⟩) h.lt).trans h.c1, (hb.cell (p := ⟨N, p, none⟩) h.lt).trans h.c2,
    fun o => (hb.frozen (p := ⟨N, o, none⟩) h.lt).trans (h.nf o), Nat.lt_of_lt_of_le h.lt hb.size, h.n1, h.n2, h.BN, h.op⟩
theorem TwG.far {B N o p : Nat} {wr W3 W4 : World} {v q : Value} {R S : List (List Int)} {us vs : List Value} {row : Option Nat} (h : TwG B wr N o p v q R S us vs) (hb : Below wr.heap.size wr W3) (hgrow : W3.grownBy W4 row) (hr : row ≠ some N) :
    N < W4.heap.size ∧ (∀ o, W4.cell? ⟨N, o, none⟩ = wr.cell? ⟨N, o, none⟩) ∧ ∀ o, W4.frozen? ⟨N, o, none⟩ = false := by
  have hz3 := hb.size
  have hz4 := hgrow.size
  have hlt := h.lt
  have hN : W4.heap[N]? = wr.heap[N]? := (hgrow.block N (by omega) (fun c => hr c.symm)).trans (hb.block N hlt)
  refine ⟨by omega, fun o => ?_, fun o => ?_⟩
  · exact World.cell?_of_block (w := wr) (a := ⟨N, o, none⟩) hN
  · exact (World.frozen?_of_block (w := wr) (a := ⟨N, o, none⟩) hN).trans (h.nf o)
theorem TwG.vN {B N o p : Nat} {wr : World} {v q : Value} {R S : List (List Int)} {us vs : List Value} (h : TwG B wr N o p v q R S us vs) : v.ownBlock ≠ some N := fun c => h.n1 (.inl c)
theorem TwG.own {B N o p n : Nat} {wr W : World} {v q : Value} {R S : List (List Int)} {us vs : List Value} (h : TwG B wr N o p v q R S us vs) (hb : Below wr.heap.size wr W) (hn : R.length = n) : W.ownsRow 0 23 1 v n us := by
  subst hn
  exact (h.below hb).fst.rows.top
theorem TwG.push {B N o p C g cap k B0 : Nat} {wr W3 W4 : World} {v q u : Value} {R S : List (List Int)} {us vs : List Value} {xs : List Int} (h : TwG B wr N o p v q R S us vs) (hb : Below wr.heap.size wr W3) (hf : FreshI B0 W3 u xs) (hB0 : wr.heap.size ≤ B0) (hk : R.length = k)
    (hown : W4.ownsRow C 23 1 (.slice (some ⟨g, 0, none⟩) (k + 1) cap) (k + 1) (us ++ [u])) (hgrow : W3.grownBy W4 v.ownBlock) (hat : v.ownBlock = some g ∨ g = W3.heap.size) :
    TwG B (W4.setCell ⟨N, o, none⟩ (.slice (some ⟨g, 0, none⟩) (k + 1) cap)) N o p (.slice (some ⟨g, 0, none⟩) (k + 1) cap) q (R ++ [xs]) S (us ++ [u]) vs := by
  subst hk
  obtain ⟨gu, cu, rfl, hu1, hu2, ho⟩ := hf
  have hz3 := hb.size
  have hz4 := hgrow.size
  have hlt := h.lt
  have hBN := h.BN
  have hlen : us.length = R.length := h.fst.rows.len
  obtain ⟨f1, f2, f3⟩ := h.far hb hgrow h.vN
  have hnew : ∀ b, inB (.slice (some ⟨g, 0, none⟩) (R.length + 1) cap) (us ++ [.slice (some ⟨gu, 0, none⟩) xs.length cu]) (R.length + 1) b → inB v us R.length b ∨ wr.heap.size ≤ b := fun b hb' => by
    rcases hb' with hb' | ⟨i, hi, hb'⟩
    · simp [Value.ownBlock] at hb'
      subst hb'
      rcases hat with c | c
      · exact .inl (.inl c)
      · exact .inr (by omega)
    · by_cases e : i = R.length
      · rw [e, ← hlen, getD_append_eq] at hb'
        simp [Value.ownBlock] at hb'
        exact .inr (by omega)
      · rw [getD_append_lt _ _ _ _ (by omega)] at hb'
        exact .inl (.inr ⟨i, by omega, hb'⟩)
  have hNn : ∀ b, inB (.slice (some ⟨g, 0, none⟩) (R.length + 1) cap) (us ++ [.slice (some ⟨gu, 0, none⟩) xs.length cu]) (R.length + 1) b → b ≠ N := fun b hb' c => by
    rcases hnew b hb' with h1 | h1
    · exact h.n1 (by rw [← c]; exact h1)
    · omega
  have hg : B ≤ g := by
    rcases hat with c | c
    · exact (h.fst.mb g c).1
    · omega
  have ht : ∀ b, b ≠ N → (W4.setCell ⟨N, o, none⟩ (.slice (some ⟨g, 0, none⟩) (R.length + 1) cap)).heap[b]? = W4.heap[b]? := fun b hb' => Below.heap_setCell _ _ _ _ hb'
  have hr4 := h.fst.push (by omega) hb ho (fun b hb' => by simp [Value.ownBlock] at hb'; omega) (own_based (own_base' hown) (fun b hb' => by simp [Value.ownBlock] at hb'; omega)) hgrow
  have hs4 : OwnRs B W4 q S vs := h.snd.keepI (by omega) (fun b hb' => (hgrow.block b (by have := (h.snd.inb hb').2; omega) (fun c => h.ap b (.inl c.symm) hb')).trans (hb.block b (h.snd.inb hb').2))
  have hl1 : (R ++ [xs]).length = R.length + 1 := by simp
  refine ⟨hr4.keepI (by simp) (fun b hb' => ht b (hNn b (by rw [hl1] at hb'; exact hb'))), hs4.keepI (by simp) (fun b hb' => ht b (fun c => h.n2 (by rw [← c]; exact hb'))), fun b h1 h2 => ?_, ?_, ?_, fun o => by simpa using f3 o, by simpa using f1, ?_, h.n2, hBN, h.op⟩
  · rw [hl1] at h1
    rcases hnew b h1 with h3 | h3
    · exact h.ap b h3 h2
    · have := (h.snd.inb h2).2; omega
  · exact World.cell?_setCell_same _ _ _ ((f2 o).trans h.c1)
  · rw [World.cell?_setCell_other _ _ _ _ (by have := h.op; simp; try omega), f2]; exact h.c2
  · rw [hl1]
    exact fun c => hNn N c rfl
theorem twG_low {wr W3 W4 w : World} {N B o : Nat} {row : Option Nat} {y : Value} (hB : Below B w wr) (hBN : B ≤ N) (hN : N < wr.heap.size) (hb : Below wr.heap.size wr W3) (hgrow : W3.grownBy W4 row) (hr : ∀ b, row = some b → B ≤ b) : Below B w (W4.setCell ⟨N, o, none⟩ y) :=
  ((hB.trans (hb.mono (by omega))).grown hgrow (by have := hb.size; omega) hr).setCell hBN _
theorem news_oneG {w : World} {h : Nat} {x : Value} (hc : w.cell? ⟨h, 0, none⟩ = some x) : ∀ (j : Nat) (u : Value), [x][j]? = some u → w.cell? ((⟨h, 0, none⟩ : Addr).add j) = some u := by
  intro j u hu
  rcases j with _ | j
  · simp at hu
    subst hu
    simpa [Addr.add] using hc
  · simp at hu
/-- The memory while a row is made and appended. -/
structure XgR (wB W w' : World) (B N o p k n : Nat) (v q : Value) (R S : List (List Int)) (xs : List Int) (us vs : List Value) (v' : Value) (g h : Nat) (b5 b6 b7 b9 : Bool) : Prop where
  low : b7 = false → Below W.heap.size W w'
  lst : b5 = true → b7 = false → FreshI W.heap.size w' (.slice (some ⟨g, 0, none⟩) k k) xs
  box : b6 = true → b7 = false → w'.cell? ⟨h, 0, none⟩ = some (.slice (some ⟨g, 0, none⟩) k k)
  app : b7 = true → b9 = false → ∃ w3 g2 cap, v' = .slice (some ⟨g2, 0, none⟩) (n + 1) cap ∧ Below W.heap.size W w3 ∧ FreshI W.heap.size w3 (.slice (some ⟨g, 0, none⟩) k k) xs ∧
    w'.ownsRow 0 23 1 (.slice (some ⟨g2, 0, none⟩) (n + 1) cap) (n + 1) (us ++ [.slice (some ⟨g, 0, none⟩) k k]) ∧ w3.grownBy w' v.ownBlock ∧ (v.ownBlock = some g2 ∨ g2 = w3.heap.size)
  fin : b9 = true → TwG B w' N o p v' q (R ++ [xs]) S (us ++ [.slice (some ⟨g, 0, none⟩) k k]) vs ∧ Below B wB w'
theorem XgR.call {wB W w' w'' : World} {B N o p k n g g' h : Nat} {v q v' : Value} {R S : List (List Int)} {xs : List Int} {us vs : List Value} (hR : XgR wB W w' B N o p k n v q R S xs us vs v' g h false false false false)
    (hF : FreshI w'.heap.size w'' (.slice (some ⟨g', 0, none⟩) k k) xs) (hb : Below w'.heap.size w' w'') : XgR wB W w'' B N o p k n v q R S xs us vs v' g' h true false false false :=
  ⟨fun _ => (hR.low rfl).trans (hb.mono (hR.low rfl).size), fun _ _ => hF.mono (hR.low rfl).size, fun e => (by cases e), fun e => (by cases e), fun e => (by cases e)⟩
theorem XgR.box_ {wB W w' : World} {B N o p k n g h : Nat} {v q v' : Value} {R S : List (List Int)} {xs : List Int} {us vs : List Value} (hR : XgR wB W w' B N o p k n v q R S xs us vs v' g h true false false false) :
    XgR wB W (w'.alloc (.cells #[.slice (some ⟨g, 0, none⟩) k k] 23)) B N o p k n v q R S xs us vs v' g w'.heap.size true true false false := by
  have hal : Below w'.heap.size w' (w'.alloc (.cells #[.slice (some ⟨g, 0, none⟩) k k] 23)) := (Below.refl _ _).alloc (Nat.le_refl _) _
  exact ⟨fun _ => (hR.low rfl).trans (hal.mono (hR.low rfl).size), fun _ _ => (hR.lst rfl rfl).below hal, fun _ _ => by simp, fun e => (by cases e), fun e => (by cases e)⟩
theorem XgR.app_ {wB W w' w'' : World} {B N o p k n g h g2 cap : Nat} {v q v' : Value} {R S : List (List Int)} {xs : List Int} {us vs : List Value} (hR : XgR wB W w' B N o p k n v q R S xs us vs v' g h true true false false)
    (hown : w''.ownsRow 0 23 1 (.slice (some ⟨g2, 0, none⟩) (n + 1) cap) (n + 1) (us ++ [.slice (some ⟨g, 0, none⟩) k k])) (hgrow : w'.grownBy w'' v.ownBlock) (hat : v.ownBlock = some g2 ∨ g2 = w'.heap.size) :
    XgR wB W w'' B N o p k n v q R S xs us vs (.slice (some ⟨g2, 0, none⟩) (n + 1) cap) g h true true true false :=
  ⟨fun e => (by cases e), fun _ e => (by cases e), fun _ e => (by cases e), fun _ _ => ⟨w', g2, cap, rfl, hR.low rfl, hR.lst rfl rfl, hown, hgrow, hat⟩, fun e => (by cases e)⟩
theorem XgR.store_ {wB W w' : World} {B N o p k n g h g2 cap : Nat} {v q : Value} {R S : List (List Int)} {xs : List Int} {us vs : List Value} (hR : XgR wB W w' B N o p k n v q R S xs us vs (.slice (some ⟨g2, 0, none⟩) (n + 1) cap) g h true true true false)
    (hP : TwG B W N o p v q R S us vs) (hk : R.length = n) (hwB : Below B wB W) :
    XgR wB W (w'.setCell ⟨N, o, none⟩ (.slice (some ⟨g2, 0, none⟩) (n + 1) cap)) B N o p k n v q R S xs us vs (.slice (some ⟨g2, 0, none⟩) (n + 1) cap) g h true true true true := by
  obtain ⟨w3, g3, cap3, hv, hlow, hF, hown, hgrow, hat⟩ := hR.app rfl rfl
  simp only [Value.slice.injEq, Option.some.injEq, Addr.mk.injEq, and_true, true_and] at hv
  obtain ⟨rfl, rfl⟩ := hv
  exact ⟨fun e => (by cases e), fun _ e => (by cases e), fun _ e => (by cases e), fun _ e => (by cases e), fun _ => ⟨hP.push hlow hF (Nat.le_refl _) hk hown hgrow hat, twG_low hwB hP.BN hP.lt hlow hgrow (fun b hb => (hP.fst.mb b hb).1)⟩⟩
/-- The memory while two tables are turned, in whatever order. -/
structure XtR (W w' : World) (N : Nat) (X Y : List (List Int)) (v1 v2 : Value) (us1 us2 : List Value) (b2 b5 b7 : Bool) : Prop where
  low : b7 = false → Below W.heap.size W w'
  t1 : b2 = true → b7 = false → OwnRs W.heap.size w' v1 X us1
  t2 : b5 = true → b7 = false → OwnRs W.heap.size w' v2 Y us2
  ap : b2 = true → b5 = true → ∀ b, inB v1 us1 X.length b → inB v2 us2 Y.length b → False
  fin : b7 = true → ∃ w0, Below W.heap.size W w0 ∧ OwnRs W.heap.size w0 v1 X us1 ∧ OwnRs W.heap.size w0 v2 Y us2 ∧ w' = (w0.setCell ⟨N, 0, none⟩ v1).setCell ⟨N, 1, none⟩ v2
theorem XtR.call1 {W w' w'' : World} {N : Nat} {X Y : List (List Int)} {v1 v2 v : Value} {us1 us2 us : List Value} {b5 : Bool} (hR : XtR W w' N X Y v1 v2 us1 us2 false b5 false) (hF : FreshR w'.heap.size w'' v X us) (hb : Below w'.heap.size w' w'') :
    XtR W w'' N X Y v v2 us us2 true b5 false := by
  have hlow := hR.low rfl
  refine ⟨fun _ => hlow.trans (hb.mono hlow.size), fun _ _ => hF.ownRs.mono hlow.size, fun h5 _ => (hR.t2 h5 rfl).keepI hb.size (fun b hb' => hb.block b ((hR.t2 h5 rfl).inb hb').2), fun _ h5 b h1 h2 => ?_, fun e => (by cases e)⟩
  have := (hF.ownRs.inb h1).1
  have := ((hR.t2 h5 rfl).inb h2).2
  omega
theorem XtR.call2 {W w' w'' : World} {N : Nat} {X Y : List (List Int)} {v1 v2 v : Value} {us1 us2 us : List Value} {b2 : Bool} (hR : XtR W w' N X Y v1 v2 us1 us2 b2 false false) (hF : FreshR w'.heap.size w'' v Y us) (hb : Below w'.heap.size w' w'') :
    XtR W w'' N X Y v1 v us1 us b2 true false := by
  have hlow := hR.low rfl
  refine ⟨fun _ => hlow.trans (hb.mono hlow.size), fun h2 _ => (hR.t1 h2 rfl).keepI hb.size (fun b hb' => hb.block b ((hR.t1 h2 rfl).inb hb').2), fun _ _ => hF.ownRs.mono hlow.size, fun h2 _ b h1 h3 => ?_, fun e => (by cases e)⟩
  have := (hF.ownRs.inb h3).1
  have := ((hR.t1 h2 rfl).inb h1).2
  omega
theorem XtR.store_ {W w' : World} {N : Nat} {X Y : List (List Int)} {v1 v2 : Value} {us1 us2 : List Value} (hR : XtR W w' N X Y v1 v2 us1 us2 true true false) :
    XtR W ((w'.setCell ⟨N, 0, none⟩ v1).setCell ⟨N, 1, none⟩ v2) N X Y v1 v2 us1 us2 true true true :=
  ⟨fun e => (by cases e), fun _ e => (by cases e), fun _ e => (by cases e), hR.ap, fun _ => ⟨w', hR.low rfl, hR.t1 rfl rfl, hR.t2 rfl rfl, rfl⟩⟩

/-- What a function leaves that returns a game and a code. -/
def OutG (w : World) (o : List (List Int) × List (List Int) × Int) (e : Ending) (w' : World) : Prop :=
  ∃ m q us, e = .returned (.tuple #[.agg #[m, q], .int .i64 o.2.2]) ∧ RngG w.heap.size w'.heap.size w' m q o.1 o.2.1 us ∧ Below w.heap.size w w'
theorem ownR_shapeG {w : World} {v : Value} {xss : List (List Int)} {us : List Value} (h : OwnR w v xss us) : ∃ a c, v = .slice a xss.length c := by
  rcases h.top.2 with ⟨rfl, hn⟩ | ⟨g, cap, cur, rfl, _⟩
  · exact ⟨none, 0, by rw [hn]⟩
  · exact ⟨_, cap, rfl⟩
theorem OutG.out {w w' : World} {o : List (List Int) × List (List Int) × Int} {e : Ending} (h : OutG w o e w') :
    ∃ a c b d us, e = .returned (.tuple #[.agg #[.slice a o.1.length c, .slice b o.2.1.length d], .int .i64 o.2.2]) ∧ RngG w.heap.size w'.heap.size w' (.slice a o.1.length c) (.slice b o.2.1.length d) o.1 o.2.1 us ∧ Below w.heap.size w w' := by
  obtain ⟨m, q, us, rfl, ho, hb⟩ := h
  obtain ⟨a1, c1, rfl⟩ := ownR_shapeG ho.fst
  obtain ⟨a2, c2, rfl⟩ := ownR_shapeG ho.snd
  exact ⟨a1, c1, a2, c2, us, rfl, ho, hb⟩
structure FineG (o : List (List Int) × List (List Int) × Int) : Prop where
  m64 : ∀ j, j < o.1.length → ∀ x ∈ o.1.getD j [], I64 x
  q64 : ∀ j, j < o.2.1.length → ∀ x ∈ o.2.1.getD j [], I64 x
  tot : tot o.1 ≤ 1048576
  len : PM.tot o.2.1 ≤ 1048576
theorem rngG_two {lo : Nat} {w : World} {v q : Value} {R S : List (List Int)} {us vs : List Value} (h1 : OwnRs lo w v R us) (h2 : OwnRs lo w q S vs) (hap : ∀ b, inB v us R.length b → inB q vs S.length b → False) : RngG lo w.heap.size w v q R S (us, vs) := by
  have e1 : ∀ b, b ∈ blks v ∨ b ∈ rblks us → inB v us R.length b := fun b hb => by
    rcases hb with hb | hb
    · exact .inl (mem_blks.1 hb)
    · obtain ⟨i, hi, hb'⟩ := of_mem_rblks hb
      exact .inr ⟨i, by rw [← h1.rows.len]; exact hi, hb'⟩
  have e2 : ∀ b, b ∈ blks q ∨ b ∈ rblks vs → inB q vs S.length b := fun b hb => by
    rcases hb with hb | hb
    · exact .inl (mem_blks.1 hb)
    · obtain ⟨i, hi, hb'⟩ := of_mem_rblks hb
      exact .inr ⟨i, by rw [← h2.rows.len]; exact hi, hb'⟩
  exact ⟨h1.rows, h2.rows, fun b hb => h1.inb (e1 b hb), fun b hb => h2.inb (e2 b hb), fun b hb hb2 => hap b (e1 b hb) (e2 b hb2)⟩
theorem outG_err {w w' : World} {c : Int} (h : Below w.heap.size w w') : OutG w ([], [], c) (.returned (.tuple #[.agg #[.slice none 0 0, .slice none 0 0], .int .i64 c])) w' := by
  refine ⟨_, _, ([], []), rfl, rngG_two (ownRs_nil _ _) (ownRs_nil _ _) (fun b hb _ => ?_), h⟩
  rcases hb with hb | ⟨i, hi, _⟩
  · simp [Value.ownBlock] at hb
  · exact absurd hi (Nat.not_lt_zero _)
end Go.Proofs.Ytimcokealhnfhaa.PW
namespace Go.Proofs.Ytimcokealhnfhaa.PR
open Go Go.RowKit
variable {F : Fence} {n : Nat} {P : Program} {ops : Array Oper} {Q : Exit → Act → World → Prop}
/-- An append inside a region that draws its order, with the block that it lies in. -/
theorem stepIn_append_liesG (w : World) {o : Oper} {a : Act} {K : Act → World → Prop} {E : Prop}
    (hg : o.guard = none) (s x : Operand) (t : TypeId) (hop : o.op = Op.call { callee := Callee.builtin Builtin.append, args := #[s, x], argTypes := #[t, t] })
    (base : Nat) (e : TypeId) (i : TypeInfo) (z : Value) (size bytes : Nat) (h1 : P.underlying t = some (.slice e)) (h2 : P.info? e = some i) (h3 : i.zero = some z) (h4 : i.size = size) (h5 : i.bytes = bytes) (h6 : z.cells.size = size) (h7 : 0 < size)
    (v : Value) (k : Nat) (xs : List Value) (hs : a.eval s = v) (hown : w.ownsRow base e size v k xs) (ad : Addr) (m c : Nat) (news : List Value) (hx : a.eval x = .slice (some ad) m c) (hn : news.length = m * size)
    (hc : ∀ j u, news[j]? = some u → w.cell? (ad.add j) = some u) (h1c : ∀ u ∈ news, u.oneCell' = true) (hm : 0 < m) (b1 : k + m ≤ maxLen) (b2 : (k + m) * bytes ≤ 140737488355328) (b3 : base ≤ w.heap.size)
    (hK : ∀ g cap w', w'.ownsRow base e size (.slice (some ⟨g, 0, none⟩) (k + m) cap) (k + m) (xs ++ news) → w.grownBy w' v.ownBlock → (v.ownBlock = some g ∨ g = w.heap.size) → g < w'.heap.size → K (a.put o.dst (.slice (some ⟨g, 0, none⟩) (k + m) cap)) w') :
    if Region.wanted o (yielded ops a.tmps) = true then Oper.wpIn F n P o a w K Q else E := by
  have hw : Region.wanted o (yielded ops a.tmps) = true := by simp [Region.wanted, hg]
  rw [if_pos hw]
  obtain ⟨g, cap, w', hrun, r1, r2, r3, r4⟩ := run_append_lies (P := P) (w := w) t o.type base e i z size bytes h1 h2 h3 h4 h5 h6 h7 v k xs hown ad m c news hn hc h1c hm b1 b2 b3 w.heap.size rfl
  unfold Oper.wpIn
  refine ⟨?_, ?_⟩
  · simp [Oper.about, hop, resolve, Target.leads, Sem.run_pure]
  · rw [Oper.semAt_plain F _ _ (by rw [hop]; intro c hc'; cases hc')]
    simp [execOp, hop, resolve, invoke, builtin, hs, hx, hrun, Result.andThen]
    exact hK _ _ _ r1 r2 r3 r4
end Go.Proofs.Ytimcokealhnfhaa.PR
