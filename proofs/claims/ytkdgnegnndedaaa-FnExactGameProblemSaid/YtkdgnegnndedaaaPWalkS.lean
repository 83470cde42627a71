/-
  Walks: a row of a problem scaled, in the program.
-/
import Derived.Test.YtkdgnegnndedaaaPWalkN
namespace Go.Proofs.Ytkdgnegnndedaaa.PW
open Go.RowKit Go.Proofs.Ytkdgnegnndedaaa
open Go.Proofs.Ytkdgnegnndedaaa.PM

theorem own_nonempty {w : World} {v : Value} {xs : List Int} (h : OwnI w v xs) (h0 : xs ≠ []) : ∃ g cap, v = .slice (some ⟨g, 0, none⟩) xs.length cap := by
  rcases h.2 with ⟨_, hn⟩ | ⟨g, cap, cur, hv, _⟩
  · exact absurd (List.length_eq_zero_iff.1 hn) h0
  · exact ⟨g, cap, hv⟩
theorem own_cell {w : World} {g cap : Nat} {xs : List Int} (h : OwnI w (.slice (some ⟨g, 0, none⟩) xs.length cap) xs) {j : Nat} (hj : j < xs.length) : w.cell? ⟨g, j, none⟩ = some (.int .i64 (xs.getD j 0)) := by
  rw [World.ownsRow.cellAt h j (by omega)]
  simp [hj]
theorem own_frozen {w : World} {g cap : Nat} {xs : List Int} (h : OwnI w (.slice (some ⟨g, 0, none⟩) xs.length cap) xs) (j : Nat) : w.frozen? ⟨g, j, none⟩ = false := World.ownsRow.frozenAt h j
theorem own_set {w : World} {g cap : Nat} {xs : List Int} (h : OwnI w (.slice (some ⟨g, 0, none⟩) xs.length cap) xs) (j : Nat) (x : Int) :
    OwnI (w.setCell ⟨g, j, none⟩ (.int .i64 x)) (.slice (some ⟨g, 0, none⟩) xs.length cap) (xs.set j x) := by
  have hs := (World.ownsRow.stored h j (.int .i64 x)).1
  rw [← List.map_set] at hs
  show World.ownsRow _ _ _ _ _ _ _
  rw [List.length_set]
  exact hs
theorem top_cell {w : World} {g cap : Nat} {xss : List (List Int)} {us : List Value} (h : OwnR w (.slice (some ⟨g, 0, none⟩) xss.length cap) xss us) {j : Nat} (hj : j < xss.length) : w.cell? ⟨g, j, none⟩ = some (us.getD j undef) := by
  have hl := h.len
  rw [World.ownsRow.cellAt h.top j (by omega)]
  simp [hl, hj]

/-- A store into the right side. -/
theorem FreshP.setRight {B : Nat} {w : World} {m : Value} {g cap : Nat} {M : List (List Int)} {Q : List Int} {us : List Value} (h : FreshP B w m (.slice (some ⟨g, 0, none⟩) Q.length cap) M Q us) (j : Nat) (x : Int) :
    FreshP B (w.setCell ⟨g, j, none⟩ (.int .i64 x)) m (.slice (some ⟨g, 0, none⟩) Q.length cap) M (Q.set j x) us := by
  have ht : Tch [g] w (w.setCell ⟨g, j, none⟩ (.int .i64 x)) := (Tch.refl _ _).setCell (by simp) _
  obtain ⟨⟨⟨h1, h2, h3, h4, h5⟩, ⟨gm, cm, hv, hB, hlt⟩, h6⟩, ⟨g', cap', hq, hBq, hltq, ho⟩, ha⟩ := h
  have hap := ha g rfl
  refine ⟨⟨⟨h1, ?_, fun i hi => (h3 i hi).tch ht (fun b hb c => ?_), h4, h5⟩, ⟨gm, cm, hv, hB, by simpa using hlt⟩, fun i b hi hb => ⟨(h6 i b hi hb).1, by simpa using (h6 i b hi hb).2⟩⟩, ⟨g, cap, by simp, ?_, ?_, own_set ho j x⟩, ha⟩
  · refine ⟨h2.1, ?_⟩
    rcases h2.2 with h | ⟨g2, cap2, cur, hv', hb0, hg, r⟩
    · exact .inl h
    · refine .inr ⟨g2, cap2, cur, hv', hb0, ?_, r⟩
      rw [ht.block g2 (fun c => hap.1 (by rw [hv']; simp at c; simp [Value.ownBlock, c]))]
      exact hg
  · simp at c; subst c; exact hap.2 i hi hb
  · simp only [Value.slice.injEq, Option.some.injEq, Addr.mk.injEq, and_true, true_and] at hq; omega
  · simp only [Value.slice.injEq, Option.some.injEq, Addr.mk.injEq, and_true, true_and] at hq; simp; omega

/-- A store into a row. -/
theorem FreshP.setRow {B : Nat} {w : World} {m q : Value} {g cap i : Nat} {M : List (List Int)} {Q : List Int} {us : List Value} (h : FreshP B w m q M Q us) (hi : i < M.length)
    (hu : us.getD i undef = .slice (some ⟨g, 0, none⟩) (M.getD i []).length cap) (j : Nat) (x : Int) :
    FreshP B (w.setCell ⟨g, j, none⟩ (.int .i64 x)) m q (M.set i ((M.getD i []).set j x)) Q us := by
  have ht : Tch [g] w (w.setCell ⟨g, j, none⟩ (.int .i64 x)) := (Tch.refl _ _).setCell (by simp) _
  have hub : (us.getD i undef).ownBlock = some g := by rw [hu]; rfl
  obtain ⟨⟨⟨h1, h2, h3, h4, h5⟩, ⟨gm, cm, hv, hB, hlt⟩, h6⟩, ⟨g', cap', hq, hBq, hltq, ho⟩, ha⟩ := h
  have hlen : (M.set i ((M.getD i []).set j x)).length = M.length := by simp
  refine ⟨⟨⟨by rw [hlen]; exact h1, ?_, fun k hk => ?_, fun a b c ha hb => h4 a b c (by rw [hlen] at ha; exact ha) (by rw [hlen] at hb; exact hb), fun k b hk => h5 k b (by rw [hlen] at hk; exact hk)⟩,
    ⟨gm, cm, by rw [hlen]; exact hv, hB, by simpa using hlt⟩, fun k b hk hb => ⟨(h6 k b (by rw [hlen] at hk; exact hk) hb).1, by simpa using (h6 k b (by rw [hlen] at hk; exact hk) hb).2⟩⟩,
    ⟨g', cap', hq, hBq, by simpa using hltq, ho.tch ht (fun b hb c => ?_)⟩, fun b hb => ⟨(ha b hb).1, fun k hk => (ha b hb).2 k (by rw [hlen] at hk; exact hk)⟩⟩
  · rw [hlen]
    refine ⟨h2.1, ?_⟩
    rcases h2.2 with h | ⟨g2, cap2, cur, hv', hb0, hg, r⟩
    · exact .inl h
    · refine .inr ⟨g2, cap2, cur, hv', hb0, ?_, r⟩
      rw [ht.block g2 (fun c => by simp at c; exact h5 i g hi (by rw [hv']; simp [Value.ownBlock, c]) hub)]
      exact hg
  · rw [hlen] at hk
    by_cases e : k = i
    · subst e
      have := h3 k hi
      rw [hu] at this ⊢
      have e2 : (M.set k ((M.getD k []).set j x)).getD k [] = (M.getD k []).set j x := by simp [hi]
      rw [e2]
      exact own_set this j x
    · have e2 : (M.set i ((M.getD i []).set j x)).getD k [] = M.getD k [] := by
        simp only [List.getD_eq_getElem?_getD]
        rw [List.getElem?_set_ne (fun c => e c.symm)]
      rw [e2]
      exact (h3 k hk).tch ht (fun b hb c => by simp at c; subst c; exact e (h4 k i _ hk hi hb hub))
  · simp at c; subst c; exact (ha _ hb).2 i hi hub

/-- A row scaled, and the right side's number. -/
def scM (M : List (List Int)) (i : Nat) (k : Int) : List (List Int) := M.set i ((M.getD i []).map (· * k))
def scQ (Q : List Int) (i : Nat) (k : Int) : List Int := Q.set i (Q.getD i 0 * k)
/-- The first c numbers of a list are scaled. -/
def scPart (xs : List Int) (k : Int) (c : Nat) : List Int := (xs.take c).map (· * k) ++ xs.drop c
theorem scPart_zero (xs : List Int) (k : Int) : scPart xs k 0 = xs := by simp [scPart]
theorem scPart_all (xs : List Int) (k : Int) : scPart xs k xs.length = xs.map (· * k) := by simp [scPart]
theorem scPart_length (xs : List Int) (k : Int) (c : Nat) (h : c ≤ xs.length) : (scPart xs k c).length = xs.length := by simp [scPart]; omega
theorem scPart_getD (xs : List Int) (k : Int) (c : Nat) (h : c < xs.length) : (scPart xs k c).getD c 0 = xs.getD c 0 := by
  have : (List.map (· * k) (List.take c xs)).length = c := by simp; omega
  unfold scPart
  rw [List.getD_eq_getElem?_getD, List.getElem?_append_right (by rw [this]; exact Nat.le_refl _), this, Nat.sub_self]
  simp [h]
theorem scPart_set (xs : List Int) (k : Int) (c : Nat) (h : c < xs.length) : (scPart xs k c).set c (xs.getD c 0 * k) = scPart xs k (c + 1) := by
  have hd : xs.drop c = xs[c] :: xs.drop (c + 1) := List.drop_eq_getElem_cons h
  have hl : (List.map (· * k) (List.take c xs)).length = c := by simp; omega
  unfold scPart
  rw [hd, List.set_append_right _ _ (by omega), hl, Nat.sub_self, List.set_cons_zero, List.take_succ_eq_append_getElem h, List.map_append, List.append_assoc]
  simp [h]
theorem set_set {α : Type} (l : List α) (i : Nat) (a b : α) : (l.set i a).set i b = l.set i b := by simp

/-- A problem in memory of the call's own, or an empty one. -/
structure OwnP (B : Nat) (w : World) (m q : Value) (M : List (List Int)) (Q : List Int) (us : List Value) : Prop where
  rows : OwnR w m M us
  right : OwnI w q Q
  mb : ∀ b, m.ownBlock = some b → B ≤ b ∧ b < w.heap.size
  qb : ∀ b, q.ownBlock = some b → B ≤ b ∧ b < w.heap.size
  ub : ∀ i b, i < M.length → (us.getD i undef).ownBlock = some b → B ≤ b ∧ b < w.heap.size
  apart : ∀ b, q.ownBlock = some b → m.ownBlock ≠ some b ∧ ∀ i, i < M.length → (us.getD i undef).ownBlock ≠ some b
theorem FreshP.ownP {B : Nat} {w : World} {m q : Value} {M : List (List Int)} {Q : List Int} {us : List Value} (h : FreshP B w m q M Q us) : OwnP B w m q M Q us := by
  obtain ⟨g, cap, hv, h1, h2⟩ := h.rows.top
  obtain ⟨g', cap', hq, h3, h4, ho⟩ := h.right
  exact ⟨h.rows.own, ho, fun b hb => by rw [hv] at hb; simp [Value.ownBlock] at hb; omega, fun b hb => by rw [hq] at hb; simp [Value.ownBlock] at hb; omega, h.rows.rows, h.apart⟩
theorem ownP_nil (B : Nat) (w : World) : OwnP B w (.slice none 0 0) (.slice none 0 0) [] [] [] :=
  ⟨⟨rfl, World.ownsRow_nil _ _ _ _, fun i hi => absurd hi (Nat.not_lt_zero _), fun i j b hi => absurd hi (Nat.not_lt_zero _), fun i b hi => absurd hi (Nat.not_lt_zero _)⟩, World.ownsRow_nil _ _ _ _,
    fun b hb => by simp [Value.ownBlock] at hb, fun b hb => by simp [Value.ownBlock] at hb, fun i b hi => absurd hi (Nat.not_lt_zero _), fun b hb => by simp [Value.ownBlock] at hb⟩

/-- What a function leaves that returns a problem and a code. -/
def OutP (w : World) (o : List (List Int) × List Int × Int) (e : Ending) (w' : World) : Prop :=
  ∃ m q us, e = .returned (.tuple #[.agg #[m, q], .int .i64 o.2.2]) ∧ OwnP w.heap.size w' m q o.1 o.2.1 us ∧ Below w.heap.size w w'

def scaleOut (M : List (List Int)) (Q : List Int) (i k : Int) : List (List Int) × List Int × Int :=
  if isPB M Q = false then ([], [], 1)
  else if i < 0 ∨ (M.length : Int) ≤ i ∨ k < 1 ∨ 100 < k then ([], [], 2)
  else if isPB (scM M i.toNat k) (scQ Q i.toNat k) = false then ([], [], 3)
  else (scM M i.toNat k, scQ Q i.toNat k, 0)

theorem isPB_facts {M : List (List Int)} {Q : List Int} (h : isPB M Q = true) : 1 ≤ M.length ∧ M.length ≤ 5 ∧ Q.length = M.length ∧ (∀ j, j < M.length → (M.getD j []).length = M.length ∧ ∀ c, c < M.length → -20 ≤ (M.getD j []).getD c 0 ∧ (M.getD j []).getD c 0 ≤ 20) ∧ ∀ j, j < Q.length → -100 ≤ Q.getD j 0 ∧ Q.getD j 0 ≤ 100 := by
  obtain ⟨hm, hl, hq⟩ := (isPB_iff M Q).1 h
  obtain ⟨⟨h1, h5⟩, hr⟩ := (matB_iff M).1 hm
  refine ⟨h1, h5, hl, fun j hj => ⟨(hr j hj).1, fun c hc => (wit_iff 20 _).1 (hr j hj).2 c (by rw [(hr j hj).1]; exact hc)⟩, (wit_iff 100 Q).1 hq⟩
theorem tot_small {M : List (List Int)} {Q : List Int} (h : isPB M Q = true) : tot M ≤ 1048576 := by
  obtain ⟨h1, h5, _, hr, _⟩ := isPB_facts h
  have : ∀ k, k ≤ M.length → pre M k ≤ 5 * k := by
    intro k
    induction k with
    | zero => intro _; rw [pre_zero]; exact Nat.zero_le _
    | succ k ih =>
      intro hk
      rw [pre_succ M k (by omega), (hr k (by omega)).1]
      have := ih (by omega)
      omega
  have h2 := this M.length (Nat.le_refl _)
  rw [pre_all] at h2
  unfold tot
  omega

/-- While a row is scaled in place: the copy, the variable that holds it, the result's variable. -/
structure Sc (w wr : World) (B N : Nat) (m q : Value) (M : List (List Int)) (Q : List Int) (us : List Value) : Prop where
  fresh : FreshP B wr m q M Q us
  c0 : wr.cell? ⟨N, 0, none⟩ = some m
  c1 : wr.cell? ⟨N, 1, none⟩ = some q
  r0 : wr.cell? ⟨w.heap.size + 1, 0, none⟩ = some (.slice none 0 0)
  r1 : wr.cell? ⟨w.heap.size + 1, 1, none⟩ = some (.slice none 0 0)
  rf : ∀ o, wr.frozen? ⟨w.heap.size + 1, o, none⟩ = false
  lt : w.heap.size + 1 < wr.heap.size
  below : Below w.heap.size w wr

theorem Sc.setRow {w wr : World} {B N : Nat} {m q : Value} {M : List (List Int)} {Q : List Int} {us : List Value} {g cap i : Nat} (h : Sc w wr B N m q M Q us) (hi : i < M.length)
    (hu : us.getD i undef = .slice (some ⟨g, 0, none⟩) (M.getD i []).length cap) (hN : g ≠ N) (hB : w.heap.size + 1 < g) (j : Nat) (x : Int) :
    Sc w (wr.setCell ⟨g, j, none⟩ (.int .i64 x)) B N m q (M.set i ((M.getD i []).set j x)) Q us := by
  have hne : ∀ (b o : Nat), b ≠ g → (wr.setCell ⟨g, j, none⟩ (.int .i64 x)).cell? ⟨b, o, none⟩ = wr.cell? ⟨b, o, none⟩ := fun b o hb => World.cell?_of_block (w := wr) (a := ⟨b, o, none⟩) (Below.heap_setCell _ _ _ _ hb)
  have hnf : ∀ (b o : Nat), b ≠ g → (wr.setCell ⟨g, j, none⟩ (.int .i64 x)).frozen? ⟨b, o, none⟩ = wr.frozen? ⟨b, o, none⟩ := fun b o hb => World.frozen?_of_block (w := wr) (a := ⟨b, o, none⟩) (Below.heap_setCell _ _ _ _ hb)
  exact ⟨h.fresh.setRow hi hu j x, by rw [hne _ _ (fun c => hN c.symm)]; exact h.c0, by rw [hne _ _ (fun c => hN c.symm)]; exact h.c1, by rw [hne _ _ (by omega)]; exact h.r0, by rw [hne _ _ (by omega)]; exact h.r1, fun o => by rw [hnf _ _ (by omega)]; exact h.rf o, by simpa using h.lt, h.below.setCell (by simp; omega) _⟩

theorem Sc.setRight {w wr : World} {B N : Nat} {m : Value} {M : List (List Int)} {Q : List Int} {us : List Value} {g cap : Nat} (h : Sc w wr B N m (.slice (some ⟨g, 0, none⟩) Q.length cap) M Q us)
    (hN : g ≠ N) (hB : w.heap.size + 1 < g) (j : Nat) (x : Int) :
    Sc w (wr.setCell ⟨g, j, none⟩ (.int .i64 x)) B N m (.slice (some ⟨g, 0, none⟩) Q.length cap) M (Q.set j x) us := by
  have hne : ∀ (b o : Nat), b ≠ g → (wr.setCell ⟨g, j, none⟩ (.int .i64 x)).cell? ⟨b, o, none⟩ = wr.cell? ⟨b, o, none⟩ := fun b o hb => World.cell?_of_block (w := wr) (a := ⟨b, o, none⟩) (Below.heap_setCell _ _ _ _ hb)
  have hnf : ∀ (b o : Nat), b ≠ g → (wr.setCell ⟨g, j, none⟩ (.int .i64 x)).frozen? ⟨b, o, none⟩ = wr.frozen? ⟨b, o, none⟩ := fun b o hb => World.frozen?_of_block (w := wr) (a := ⟨b, o, none⟩) (Below.heap_setCell _ _ _ _ hb)
  exact ⟨h.fresh.setRight j x, by rw [hne _ _ (fun c => hN c.symm)]; exact h.c0, by rw [hne _ _ (fun c => hN c.symm)]; exact h.c1, by rw [hne _ _ (by omega)]; exact h.r0, by rw [hne _ _ (by omega)]; exact h.r1, fun o => by rw [hnf _ _ (by omega)]; exact h.rf o, by simpa using h.lt, h.below.setCell (by simp; omega) _⟩

theorem FreshP.reads {B : Nat} {w : World} {m q : Value} {M : List (List Int)} {Q : List Int} {us : List Value} (h : FreshP B w m q M Q us) (hM : ∀ i, i < M.length → ∀ x ∈ M.getD i [], I64 x) (hQ : ∀ x ∈ Q, I64 x) : PM.Rows w m M ∧ Ints w q Q := by
  obtain ⟨_, _, _, _, _, ho⟩ := h.right
  exact ⟨h.rows.own.rows' hM, ho.ints hQ⟩

theorem scale_err1 (m q : Value) (M : List (List Int)) (Q : List Int) (i k : Int) (w : World) (h1 : PM.Rows w m M) (h2 : Ints w q Q) (hp' : isPB M Q = false) :
    Calls Try.prog 18 #[.agg #[m, q], .int .i64 i, .int .i64 k] w (OutP w ([], [], 1)) := by
  have g1 := fun (w' : World) (h : Below w.heap.size w w') => h1.below h
  have g2 := fun (w' : World) (h : Below w.heap.size w w') => h2.below h
  obtain ⟨a1, c1, rfl, _⟩ := h1
  obtain ⟨a2, c2, rfl, _⟩ := h2
  have HP := Lib.hid hp'
  clear hp'
  go_enter Try.func18, Try.ntmps18
  go_wp2_with fail
  refine (implIsProblem_any _ _ M Q _ (g1 _ (by (repeat' (first | (with_reducible exact Below.refl _ _) | (with_reducible assumption) | (with_reducible refine Below.alloc ?_ ?_ _) | (with_reducible refine Below.drew ?_) | (with_reducible refine below_drewN ?_ _) | (with_reducible refine Below.setCell ?_ ?_ _) | (with_reducible refine Below.trans ?_ (Below.mono (by with_reducible assumption) ?_)) | (with_reducible exact Below.size (by with_reducible assumption)) | go_size)))) (g2 _ (by (repeat' (first | (with_reducible exact Below.refl _ _) | (with_reducible assumption) | (with_reducible refine Below.alloc ?_ ?_ _) | (with_reducible refine Below.drew ?_) | (with_reducible refine below_drewN ?_ _) | (with_reducible refine Below.setCell ?_ ?_ _) | (with_reducible refine Below.trans ?_ (Below.mono (by with_reducible assumption) ?_)) | (with_reducible exact Below.size (by with_reducible assumption)) | go_size))))).mono ?_; rw [HP.out]; rintro e w1 ⟨rfl, hb1⟩; obtain ⟨hc_hb1, hf_hb1⟩ := bcell hb1; obtain ⟨hcA_hb1, hfA_hb1⟩ := bcellG (W0 := w) hb1 (by (repeat' (first | (with_reducible exact Below.refl _ _) | (with_reducible assumption) | (with_reducible refine Below.alloc ?_ ?_ _) | (with_reducible refine Below.drew ?_) | (with_reducible refine below_drewN ?_ _) | (with_reducible refine Below.setCell ?_ ?_ _) | (with_reducible refine Below.trans ?_ (Below.mono (by with_reducible assumption) ?_)) | (with_reducible exact Below.size (by with_reducible assumption)) | go_size))); have hz_hb1 := hb1.size; (try simp at hz_hb1); (try simp only [Nat.add_one_le_iff] at hz_hb1); have hz0_hb1 : w.heap.size < w1.heap.size := (by omega); have hz1_hb1 : w.heap.size + 1 < w1.heap.size := (by omega)
  go_wp2_with fail
  refine bodyPost_ret (v := .tuple #[.agg #[.slice none 0 0, .slice none 0 0], .int .i64 1]) (by simp [*, results, Try.results18, go_sem]) rfl ?_
  refine ⟨_, _, [], rfl, ownP_nil _ _, ?_⟩
  (repeat' (first | (with_reducible exact Below.refl _ _) | (with_reducible assumption) | (with_reducible refine Below.alloc ?_ ?_ _) | (with_reducible refine Below.drew ?_) | (with_reducible refine below_drewN ?_ _) | (with_reducible refine Below.setCell ?_ ?_ _) | (with_reducible refine Below.trans ?_ (Below.mono (by with_reducible assumption) ?_)) | (with_reducible exact Below.size (by with_reducible assumption)) | go_size))
theorem scale_err2 (m q : Value) (M : List (List Int)) (Q : List Int) (i k : Int) (w : World) (h1 : PM.Rows w m M) (h2 : Ints w q Q) (hp : isPB M Q = true)
    (hrng : i < 0 ∨ (M.length : Int) ≤ i ∨ k < 1 ∨ 100 < k) :
    Calls Try.prog 18 #[.agg #[m, q], .int .i64 i, .int .i64 k] w (OutP w ([], [], 2)) := by
  have g1 := fun (w' : World) (h : Below w.heap.size w w') => h1.below h
  have g2 := fun (w' : World) (h : Below w.heap.size w w') => h2.below h
  obtain ⟨a1, c1, rfl, _⟩ := h1
  obtain ⟨a2, c2, rfl, _⟩ := h2
  have HP := Lib.hid hp
  clear hp
  have hcase : i < 0 ∨ (0 ≤ i ∧ (M.length : Int) ≤ i) ∨ (0 ≤ i ∧ i < M.length ∧ k < 1) ∨ (0 ≤ i ∧ i < M.length ∧ 1 ≤ k ∧ 100 < k) := by omega
  clear hrng
  obtain ⟨n, hn⟩ : ∃ n, n = M.length := ⟨_, rfl⟩
  rw [← hn] at hcase g1 ⊢
  clear hn
  rcases hcase with hc | ⟨hc1, hc2⟩ | ⟨hc1, hc2, hc3⟩ | ⟨hc1, hc2, hc3, hc4⟩
  all_goals
    go_enter Try.func18, Try.ntmps18
    go_wp2_with fail
    refine (implIsProblem_any _ _ M Q _ (g1 _ (by (repeat' (first | (with_reducible exact Below.refl _ _) | (with_reducible assumption) | (with_reducible refine Below.alloc ?_ ?_ _) | (with_reducible refine Below.drew ?_) | (with_reducible refine below_drewN ?_ _) | (with_reducible refine Below.setCell ?_ ?_ _) | (with_reducible refine Below.trans ?_ (Below.mono (by with_reducible assumption) ?_)) | (with_reducible exact Below.size (by with_reducible assumption)) | go_size)))) (g2 _ (by (repeat' (first | (with_reducible exact Below.refl _ _) | (with_reducible assumption) | (with_reducible refine Below.alloc ?_ ?_ _) | (with_reducible refine Below.drew ?_) | (with_reducible refine below_drewN ?_ _) | (with_reducible refine Below.setCell ?_ ?_ _) | (with_reducible refine Below.trans ?_ (Below.mono (by with_reducible assumption) ?_)) | (with_reducible exact Below.size (by with_reducible assumption)) | go_size))))).mono ?_; rw [HP.out]; rintro e w1 ⟨rfl, hb1⟩; obtain ⟨hc_hb1, hf_hb1⟩ := bcell hb1; obtain ⟨hcA_hb1, hfA_hb1⟩ := bcellG (W0 := w) hb1 (by (repeat' (first | (with_reducible exact Below.refl _ _) | (with_reducible assumption) | (with_reducible refine Below.alloc ?_ ?_ _) | (with_reducible refine Below.drew ?_) | (with_reducible refine below_drewN ?_ _) | (with_reducible refine Below.setCell ?_ ?_ _) | (with_reducible refine Below.trans ?_ (Below.mono (by with_reducible assumption) ?_)) | (with_reducible exact Below.size (by with_reducible assumption)) | go_size))); have hz_hb1 := hb1.size; (try simp at hz_hb1); (try simp only [Nat.add_one_le_iff] at hz_hb1); have hz0_hb1 : w.heap.size < w1.heap.size := (by omega); have hz1_hb1 : w.heap.size + 1 < w1.heap.size := (by omega)
    go_wp2_with fail
    refine bodyPost_ret (v := .tuple #[.agg #[.slice none 0 0, .slice none 0 0], .int .i64 2]) (by simp [*, results, Try.results18, go_sem]) rfl ?_
    refine ⟨_, _, [], rfl, ownP_nil _ _, ?_⟩
    (repeat' (first | (with_reducible exact Below.refl _ _) | (with_reducible assumption) | (with_reducible refine Below.alloc ?_ ?_ _) | (with_reducible refine Below.drew ?_) | (with_reducible refine below_drewN ?_ _) | (with_reducible refine Below.setCell ?_ ?_ _) | (with_reducible refine Below.trans ?_ (Below.mono (by with_reducible assumption) ?_)) | (with_reducible exact Below.size (by with_reducible assumption)) | go_size))
/-- copyProblem's answer with its slices written out. -/
theorem copyProblem_out (m q : Value) (M : List (List Int)) (Q : List Int) (w : World) (h1 : PM.Rows w m M) (h2 : Ints w q Q) (h0 : M ≠ []) (hne : ∀ i, i < M.length → M.getD i [] ≠ []) (hq0 : Q ≠ []) (hn : tot M ≤ 1048576) (hn2 : Q.length ≤ 1048576) :
    Calls Try.prog 71 #[.agg #[m, q]] w fun e w' => ∃ gm cm gq cq us, e = .returned (.agg #[.slice (some ⟨gm, 0, none⟩) M.length cm, .slice (some ⟨gq, 0, none⟩) Q.length cq]) ∧ w.heap.size ≤ gm ∧ gm < w'.heap.size ∧ w.heap.size ≤ gq ∧ gq < w'.heap.size ∧ gm ≠ gq ∧
      FreshP w.heap.size w' (.slice (some ⟨gm, 0, none⟩) M.length cm) (.slice (some ⟨gq, 0, none⟩) Q.length cq) M Q us ∧ Below w.heap.size w w' := by
  refine (copyProblem_any m q M Q w h1 h2 h0 hne hq0 hn hn2).mono ?_
  rintro e w' ⟨m', q', us, rfl, hfp, hb⟩
  obtain ⟨gm, cm, rfl, hm1, hm2⟩ := hfp.rows.top
  obtain ⟨gq, cq, rfl, hq1, hq2, _⟩ := hfp.right
  exact ⟨gm, cm, gq, cq, us, rfl, hm1, hm2, hq1, hq2, fun c => (hfp.apart gq rfl).1 (by rw [c]; rfl), hfp, hb⟩
theorem Sc.start {w w3 : World} {B : Nat} {m q : Value} {M : List (List Int)} {Q : List Int} {us : List Value} (h : FreshP B w3 m q M Q us) (r0 : w3.cell? ⟨w.heap.size + 1, 0, none⟩ = some (.slice none 0 0))
    (r1 : w3.cell? ⟨w.heap.size + 1, 1, none⟩ = some (.slice none 0 0)) (rf : ∀ o, w3.frozen? ⟨w.heap.size + 1, o, none⟩ = false) (lt : w.heap.size + 1 < w3.heap.size) (hb : Below w.heap.size w w3) :
    Sc w (w3.alloc (.cells #[m, q] 27)) B w3.heap.size m q M Q us :=
  ⟨h.below ((Below.refl _ _).alloc (Nat.le_refl _) _), by simp, by simp, (World.cell?_alloc_lt w3 _ ⟨_, 0, none⟩ lt).trans r0, (World.cell?_alloc_lt w3 _ ⟨_, 1, none⟩ lt).trans r1,
    fun o => (((Below.refl w3.heap.size w3).alloc (Nat.le_refl _) (.cells #[m, q] 27)).frozen (p := ⟨_, o, none⟩) lt).trans (rf o), by simp; omega, hb.alloc (by omega) _⟩
theorem getD_set_eq (M : List (List Int)) (i : Nat) (r : List Int) (h : i < M.length) : (M.set i r).getD i [] = r := by simp [h]
/-- What the loop has done when it has scaled c numbers. -/
theorem Sc.step {w wr : World} {B N : Nat} {m q : Value} {M : List (List Int)} {Q : List Int} {us : List Value} {g cap i c : Nat} {k : Int} (h : Sc w wr B N m q (M.set i (scPart (M.getD i []) k c)) Q us) (hi : i < M.length) (hc : c < (M.getD i []).length)
    (hu : us.getD i undef = .slice (some ⟨g, 0, none⟩) (M.getD i []).length cap) (hN : g ≠ N) (hB : w.heap.size + 1 < g) :
    Sc w (wr.setCell ⟨g, c, none⟩ (.int .i64 ((M.getD i []).getD c 0 * k))) B N m q (M.set i (scPart (M.getD i []) k (c + 1))) Q us := by
  have hl : (scPart (M.getD i []) k c).length = (M.getD i []).length := scPart_length _ _ _ (by omega)
  have hg := getD_set_eq M i (scPart (M.getD i []) k c) hi
  have h2 := h.setRow (i := i) (g := g) (cap := cap) (by simpa using hi) (by rw [hg, hl]; exact hu) hN hB c ((M.getD i []).getD c 0 * k)
  rw [hg, set_set, scPart_set _ _ _ hc] at h2
  exact h2
theorem Sc.cellRow {w wr : World} {B N : Nat} {m q : Value} {M : List (List Int)} {Q : List Int} {us : List Value} {g cap i c : Nat} {k : Int} (h : Sc w wr B N m q (M.set i (scPart (M.getD i []) k c)) Q us) (hi : i < M.length) (hc : c < (M.getD i []).length)
    (hu : us.getD i undef = .slice (some ⟨g, 0, none⟩) (M.getD i []).length cap) : wr.cell? ⟨g, c, none⟩ = some (.int .i64 ((M.getD i []).getD c 0)) ∧ wr.frozen? ⟨g, c, none⟩ = false := by
  have hl : (scPart (M.getD i []) k c).length = (M.getD i []).length := scPart_length _ _ _ (by omega)
  have hg := getD_set_eq M i (scPart (M.getD i []) k c) hi
  have ho := h.fresh.rows.own.rows i (by simpa using hi)
  rw [hg, hu, ← hl] at ho
  refine ⟨?_, own_frozen ho c⟩
  rw [own_cell ho (by omega), scPart_getD _ _ _ hc]
theorem Sc.cellTop {w wr : World} {B N gm cm : Nat} {q : Value} {M : List (List Int)} {Q : List Int} {us : List Value} {i : Nat} (h : Sc w wr B N (.slice (some ⟨gm, 0, none⟩) M.length cm) q M Q us) (hi : i < M.length) : wr.cell? ⟨gm, i, none⟩ = some (us.getD i undef) :=
  top_cell h.fresh.rows.own hi
end Go.Proofs.Ytkdgnegnndedaaa.PW
