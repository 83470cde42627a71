/-
  Walks: the rows of the columns of a set, in the program.
-/
import Derived.Test.YtbcclhdfpboidaaDoorPUnit
import Derived.Test.YtbcclhdfpboidaaDoorPIter
import Derived.Test.YtbcclhdfpboidaaDoorPRound
namespace Go.Proofs.YtbcclhdfpboidaaDoor.PW
open Go.RowKit Go.Shelf Go.Proofs.YtbcclhdfpboidaaDoor
open Go.Proofs.YtbcclhdfpboidaaDoor.PM
attribute [local go_sem] Oper.semAt_some

/-- Whatever is cells lies as it lay. -/
structure KC (W W' : World) : Prop where
  size : W.heap.size ≤ W'.heap.size
  same : ∀ (b : Nat) (c : Array Value) (t : TypeId) (f : Nat × Nat), W.heap[b]? = some (Obj.cells c t f) → W'.heap[b]? = some (Obj.cells c t f)
theorem KC.of {W W' : World} {row : Option Nat} (hg : W.grownBy W' row) (hr : ∀ r, row = some r → ∃ o : Obj, W.heap[r]? = some o ∧ o.isCells = false) : KC W W' := by
  refine ⟨hg.size, fun b c t f h => ?_⟩
  have hlt : b < W.heap.size := (Array.getElem?_eq_some_iff.1 h).1
  refine (hg.block b hlt (fun e => ?_)).trans h
  obtain ⟨o, ho, hc⟩ := hr b e.symm
  rw [h] at ho
  cases ho
  cases hc
theorem KC.own {W W' : World} (h : KC W W') {B T n : Nat} {v : Value} {xs : List Value} (ho : W.ownsRow B T 1 v n xs) : W'.ownsRow B T 1 v n xs := by
  refine ⟨ho.1, ?_⟩
  rcases ho.2 with h2 | ⟨g, cap, cur, hv, hb, hg, r⟩
  · exact .inl h2
  · exact .inr ⟨g, cap, cur, hv, hb, h.same _ _ _ _ hg, r⟩
theorem KC.fresh {W W' : World} (h : KC W W') {B : Nat} {v : Value} {xss : List (List Int)} {us : List Value} (hf : FreshR B W v xss us) : FreshR B W' v xss us := by
  obtain ⟨⟨h1, h2, h3, h4, h5⟩, ⟨g, cap, hv, hB, hlt⟩, h6⟩ := hf
  exact ⟨⟨h1, h.own h2, fun i hi => h.own (h3 i hi), h4, h5⟩, ⟨g, cap, hv, hB, Nat.lt_of_lt_of_le hlt h.size⟩, fun i b hi hb => ⟨(h6 i b hi hb).1, Nat.lt_of_lt_of_le (h6 i b hi hb).2 h.size⟩⟩

/-- The columns of those that have come. -/
def colG (M : List (List Int)) (pre : List Nat) (a b : Nat) : Int := if b ∈ pre then - ent M a b else unitG a b
def colK (M : List (List Int)) (pre : List Nat) (i k : Nat) (a b : Nat) : Int := if b = i ∧ a < k then - ent M a b else colG M pre a b

/-- While the columns are written. -/
structure Cl (w W : World) (Br g n : Nat) (m q : Value) (f : Nat → Nat → Int) (us : List Value) : Prop where
  rows : FreshR (w.heap.size + 1) W (.slice (some ⟨g, 0, none⟩) n n) (tab n f) us
  box : Boxed W Br 22 (.slice (some ⟨g, 0, none⟩) n n)
  pb : W.heap[w.heap.size]? = some (.cells #[m, q] 31 (0, 0))
  below : Below w.heap.size w W
theorem Cl.kc {w W W' : World} {Br g n : Nat} {m q : Value} {f : Nat → Nat → Int} {us : List Value} (h : Cl w W Br g n m q f us) (k : KC W W') (hb : Below w.heap.size w W') : Cl w W' Br g n m q f us :=
  ⟨k.fresh h.rows, k.same _ _ _ _ h.box, k.same _ _ _ _ h.pb, hb⟩
theorem Cl.own {w : World} {Br g n B : Nat} {m q : Value} {us : List Value} {β : Type} (F : β → Nat → Nat → Int) (hB : w.heap.size ≤ B) : OwnFrom B (fun (s : β) W => Cl w W Br g n m q (F s) us) := by
  intro s W W' row h hg hr
  refine h.kc (KC.of hg (fun r e => (hr r e).2)) (ownFrom_below (β := Unit) (Nat.le_refl _) hB () W W' row h.below hg hr)

theorem own_cellN {w : World} {g cap n : Nat} {xs : List Int} (h : OwnI w (.slice (some ⟨g, 0, none⟩) n cap) xs) (hn : n = xs.length) {j : Nat} (hj : j < n) : w.cell? ⟨g, j, none⟩ = some (.int .i64 (xs.getD j 0)) := by
  subst hn
  exact own_cell h hj
theorem own_frozenN {w : World} {g cap n : Nat} {xs : List Int} (h : OwnI w (.slice (some ⟨g, 0, none⟩) n cap) xs) (hn : n = xs.length) (j : Nat) : w.frozen? ⟨g, j, none⟩ = false := by
  subst hn
  exact own_frozen h j
theorem tab_congr {n : Nat} {f g : Nat → Nat → Int} (h : ∀ a b, a < n → b < n → f a b = g a b) : tab n f = tab n g := by
  unfold tab
  apply List.map_congr_left
  intro a ha
  apply List.map_congr_left
  intro b hb
  exact h a b (by simpa using ha) (by simpa using hb)
/-- The k-th number of the column i is written. -/
def stepK (M : List (List Int)) (f : Nat → Nat → Int) (i k : Nat) (a b : Nat) : Int := if b = i ∧ a < k then - ent M a b else f a b
theorem stepK_zero (M : List (List Int)) (n : Nat) (f : Nat → Nat → Int) (i : Nat) : tab n (stepK M f i 0) = tab n f := tab_congr (fun a b _ _ => by unfold stepK; rw [if_neg (by omega)])
theorem stepK_all (M : List (List Int)) (n : Nat) (pre : List Nat) (i : Nat) : tab n (stepK M (colG M pre) i n) = tab n (colG M (pre ++ [i])) := tab_congr (fun a b ha _ => by
  unfold stepK colG
  by_cases e : b = i
  · rw [if_pos ⟨e, ha⟩, if_pos (by simp [e])]
  · rw [if_neg (fun c => e c.1)]
    by_cases e2 : b ∈ pre
    · rw [if_pos e2, if_pos (by simp [e2])]
    · rw [if_neg e2, if_neg (by simp [e, e2])])
theorem Cl.setRow {w W : World} {Br g n gr cr i k : Nat} {m q : Value} {M : List (List Int)} {f : Nat → Nat → Int} {us : List Value} (h : Cl w W Br g n m q (stepK M f i k) us) (hk : k < n) (hu : us.getD k undef = .slice (some ⟨gr, 0, none⟩) n cr) :
    Cl w (W.setCell ⟨gr, i, none⟩ (.int .i64 (- ent M k i))) Br g n m q (stepK M f i (k + 1)) us := by
  have hl : (tab n (stepK M f i k)).length = n := tab_length _ _
  have hgr := (h.rows.rows k gr (by omega) (by rw [hu]; rfl)).1
  have hro := h.rows.own.rows k (by omega)
  rw [hu] at hro
  have hne : some Br ≠ some gr := Boxed.not_row h.box (by decide) hro
  have h1 := h.rows.setRow (i := k) (by omega) hu i (- ent M k i)
  rw [tab_set _ _ _ _ _ hk] at h1
  refine ⟨?_, ?_, ?_, h.below.setCell (by simp; omega) _⟩
  · have e : tab n (fun a b => if a = k ∧ b = i then - ent M k i else stepK M f i k a b) = tab n (stepK M f i (k + 1)) := tab_congr (fun a b _ _ => by
      unfold stepK
      by_cases e1 : a = k ∧ b = i
      · rw [if_pos e1, if_pos ⟨e1.2, by omega⟩, e1.1, e1.2]
      · rw [if_neg e1]
        by_cases e2 : b = i ∧ a < k
        · rw [if_pos e2, if_pos ⟨e2.1, by omega⟩]
        · rw [if_neg e2, if_neg (fun c => by omega)])
    rw [e] at h1
    exact h1
  · exact (Below.heap_setCell _ _ _ _ (fun c => hne (by rw [c]))).trans h.box
  · exact (Below.heap_setCell _ _ _ _ (by show w.heap.size ≠ gr; omega)).trans h.pb
theorem Cl.drew {w W : World} {Br g n : Nat} {m q : Value} {f : Nat → Nat → Int} {us : List Value} (h : Cl w W Br g n m q f us) : Cl w W.drew Br g n m q f us :=
  ⟨h.rows.below (Below.refl _ _).drew, h.box, h.pb, h.below.drew⟩

set_option maxRecDepth 100000 in
set_option maxHeartbeats 1000000 in
theorem columnsOf_ok (a1 : Option Addr) (cM : Nat) (q : Value) (M : List (List Int)) (Q : List Int) (s : Int) (w : World) (h1 : PM.Rows w (.slice a1 M.length cM) M) (h2 : Ints w q Q) (hc : setCode M Q s = 0) (hn1 : 1 ≤ M.length) (hn5 : M.length ≤ 5) (hrl : ∀ j, j < M.length → (M.getD j []).length = M.length) (hme : ∀ j c, j < M.length → c < M.length → -20 ≤ ent M j c ∧ ent M j c ≤ 20) (hs0 : 0 ≤ s) (hs1 : s < 2 ^ M.length) :
    CallsIn Fence.wide 8 Tryd.prog 87 #[.agg #[.slice a1 M.length cM, q], .int .i64 s] w fun e w' => ∃ g us, e = .returned (.tuple #[.slice (some ⟨g, 0, none⟩) M.length M.length, .int .i64 0]) ∧
      FreshR w.heap.size w' (.slice (some ⟨g, 0, none⟩) M.length M.length) (tab M.length (colG M ((memTo M.length s M.length).map Fin.val))) us ∧ Below w.heap.size w w' := by
  have g1 := fun (w' : World) (h : Below w.heap.size w w') => h1.below h
  have g2 := fun (w' : World) (h : Below w.heap.size w w') => h2.below h
  obtain ⟨a2, c2, rfl, _⟩ := h2
  have HC := Lib.hid hc
  have HRL := Lib.hid hrl
  have hmx : Tryd.prog.follows .mixedOrders = true := by kernel_rfl
  have HME := Lib.hid hme
  clear hc hrl hme
  refine callsIn_of_wp_marks Tryd.func87 rfl trivial ?_ rfl
  simp only [Tryd.ntmps87, List.size_toArray, List.length_cons, List.length_nil, Nat.reduceAdd, Nat.reduceSub, Array.replicate_succ, Array.replicate_zero, List.push_toArray, List.append_toArray, List.nil_append, List.cons_append]
  gi_wp2_with fail
  refine ⟨trivial, ?_⟩
  gi_at_call 47
  refine (callsIn_wide.2 (checkSet_any _ _ M Q s _ (g1 _ (by (repeat' (first | (with_reducible exact Below.refl _ _) | (with_reducible assumption) | (with_reducible refine Below.alloc ?_ ?_ _) | (with_reducible refine Below.drew ?_) | (with_reducible refine below_drewN ?_ _) | (with_reducible refine Below.setCell ?_ ?_ _) | (with_reducible refine Below.trans ?_ (Below.mono (by with_reducible assumption) ?_)) | (with_reducible exact Below.size (by with_reducible assumption)) | go_size)))) (g2 _ (by (repeat' (first | (with_reducible exact Below.refl _ _) | (with_reducible assumption) | (with_reducible refine Below.alloc ?_ ?_ _) | (with_reducible refine Below.drew ?_) | (with_reducible refine below_drewN ?_ _) | (with_reducible refine Below.setCell ?_ ?_ _) | (with_reducible refine Below.trans ?_ (Below.mono (by with_reducible assumption) ?_)) | (with_reducible exact Below.size (by with_reducible assumption)) | go_size)))))).mono ?_
  rw [HC.out]; rintro e w1 ⟨rfl, hb1⟩; obtain ⟨hc_hb1, hf_hb1⟩ := bcell hb1; obtain ⟨hcA_hb1, hfA_hb1⟩ := bcellG (W0 := w) hb1 (by (repeat' (first | (with_reducible exact Below.refl _ _) | (with_reducible assumption) | (with_reducible refine Below.alloc ?_ ?_ _) | (with_reducible refine Below.drew ?_) | (with_reducible refine below_drewN ?_ _) | (with_reducible refine Below.setCell ?_ ?_ _) | (with_reducible refine Below.trans ?_ (Below.mono (by with_reducible assumption) ?_)) | (with_reducible exact Below.size (by with_reducible assumption)) | go_size))); have hz_hb1 := hb1.size; (try simp at hz_hb1); (try simp only [Nat.add_one_le_iff] at hz_hb1); have hz0_hb1 : w.heap.size < w1.heap.size := (by omega)
  have hw1 : Below w.heap.size w w1 := by (repeat' (first | (with_reducible exact Below.refl _ _) | (with_reducible assumption) | (with_reducible refine Below.alloc ?_ ?_ _) | (with_reducible refine Below.drew ?_) | (with_reducible refine below_drewN ?_ _) | (with_reducible refine Below.setCell ?_ ?_ _) | (with_reducible refine Below.trans ?_ (Below.mono (by with_reducible assumption) ?_)) | (with_reducible exact Below.size (by with_reducible assumption)) | go_size))
  have p1 : w1.heap[w.heap.size]? = some (.cells #[.slice a1 M.length cM, .slice a2 Q.length c2] 31 (0, 0)) := (hb1.block _ (by simp)).trans (heap_alloc_new w _)
  gi_wp2_with fail
  refine ⟨trivial, ?_⟩
  gi_at_call 94
  refine (callsIn_wide.2 (unitRows_any M.length hn1 hn5 _)).mono ?_
  rintro e w2 ⟨us, rfl, hf2, hb2⟩; obtain ⟨hc_hb2, hf_hb2⟩ := bcell hb2; obtain ⟨hcA_hb2, hfA_hb2⟩ := bcellG (W0 := w1) hb2 (by (repeat' (first | (with_reducible exact Below.refl _ _) | (with_reducible assumption) | (with_reducible refine Below.alloc ?_ ?_ _) | (with_reducible refine Below.drew ?_) | (with_reducible refine below_drewN ?_ _) | (with_reducible refine Below.setCell ?_ ?_ _) | (with_reducible refine Below.trans ?_ (Below.mono (by with_reducible assumption) ?_)) | (with_reducible exact Below.size (by with_reducible assumption)) | go_size))); have hz_hb2 := hb2.size; (try simp at hz_hb2); (try simp only [Nat.add_one_le_iff] at hz_hb2); have hz0_hb2 : w.heap.size < w2.heap.size := (by omega)
  have hw2 : Below w.heap.size w w2 := hw1.trans (hb2.mono hw1.size)
  have p2 := (hb2.block _ hz0_hb1).trans p1
  have HF2 := Lib.hid (hf2.mono (C := w.heap.size + 1) (by omega))
  have P2 := Lib.hid p2
  clear hf2 p1 p2
  gi_wp2_with fail
  refine ⟨trivial, ?_⟩
  gi_at_call 84
  refine (membersOf_in s _).mono ?_
  rintro e w3 ⟨rfl, rfl⟩
  gi_wp2_with fail
  have hz12 : w1.heap.size < w2.heap.size := by obtain ⟨g, c, hv, _, h2⟩ := HF2.out.top; simp only [Value.slice.injEq, Option.some.injEq, Addr.mk.injEq] at hv; omega
  have hn : M.length ≤ 5 := hn5
  obtain ⟨W0, hW0⟩ : ∃ W0, W0 = ((w2.alloc (.cells #[.slice (some ⟨w1.heap.size, 0, none⟩) M.length M.length] 22)).alloc (.cells #[.int .i64 s] 2)) := ⟨_, rfl⟩
  have hB0 : Below w2.heap.size w2 W0 := by rw [hW0]; (repeat' (first | (with_reducible exact Below.refl _ _) | (with_reducible assumption) | (with_reducible refine Below.alloc ?_ ?_ _) | (with_reducible refine Below.drew ?_) | (with_reducible refine below_drewN ?_ _) | (with_reducible refine Below.setCell ?_ ?_ _) | (with_reducible refine Below.trans ?_ (Below.mono (by with_reducible assumption) ?_)) | (with_reducible exact Below.size (by with_reducible assumption)) | go_size))
  have hC0 : Cl w W0 w2.heap.size w1.heap.size M.length (.slice a1 M.length cM) (.slice a2 Q.length c2) (colG M []) us := by
    refine ⟨HF2.out.below hB0, ?_, (hB0.block w.heap.size (by omega)).trans P2.out, hw2.trans (hB0.mono hw2.size)⟩
    rw [hW0]
    exact (Boxed.new w2 _ _).alloc _
  have hs : W0.cell? ⟨w2.heap.size + 1, 0, none⟩ = some (.int .i64 s) := by rw [hW0]; simp
  have hz0 : w2.heap.size + 2 = W0.heap.size := by rw [hW0]; simp
  rw [← hW0]
  clear hW0
  refine wpIn_rangeFunc_ownF (α := Fin M.length) rfl (by omega) (gf := 93) (lb := #[.pointer (some ⟨w2.heap.size + 1, 0, none⟩)]) rfl trivial (enters_of Tryd.func93 (by kernel_rfl) rfl)
    (members_stops M.length hn5 s hs0 hs1 (w2.heap.size + 1) W0 (by omega) hs) (fun h k => KB.trans h k) (KB.put (by omega)) (Below.refl _ _) (fun _ => rfl)
    (fun (pre : List (Fin M.length)) W => Cl w W w2.heap.size w1.heap.size M.length (.slice a1 M.length cM) (.slice a2 Q.length c2) (colG M (pre.map Fin.val)) us)
    (fun _ _ _ => False)
    (Cl.own (fun (pre : List (Fin M.length)) => colG M (pre.map Fin.val)) (by omega))
    (fun _ _ _ _ _ h _ _ => h)
    hC0 ?a1 ?assign ?body ?done ?stop
  case assign =>
    intro l x W K hK
    gi_wp2
    exact hK
  case body =>
    rintro l pre x W hCl hlt
    obtain ⟨i, hi⟩ := x
    have c1 := hCl.box.cell
    obtain ⟨f, hf⟩ : ∃ f, f = colG M (pre.map Fin.val) := ⟨_, rfl⟩
    rw [← hf] at hCl
    have HCL := Lib.hid hCl
    have HF := Lib.hid hf
    clear hCl hf
    gi_wp2
    gi_loopw [9, 25] (fun _ j wr => ∃ k : Nat, k ≤ M.length ∧ j = .int .i64 k ∧ Cl w wr w2.heap.size w1.heap.size M.length (.slice a1 M.length cM) (.slice a2 Q.length c2) (stepK M f i k) us ∧ KeepsOthers W wr ∧ KB (w2.heap.size + 1) W wr)
      (fun _ j _ => M.length - (intOf j).toNat)
    case atStart => exact ⟨0, Nat.zero_le _, rfl, ⟨by rw [stepK_zero]; exact HCL.out.rows, HCL.out.box, HCL.out.pb, HCL.out.below⟩, KeepsOthers.refl _, KB.refl _ _⟩
    case round =>
      obtain ⟨k, hk, rfl, hR, hKO, hKB⟩ := hrel
      by_cases hlt2 : k < M.length
      · have c1 := hR.box.cell
        have c2 : wr.cell? ⟨w.heap.size, 0, none⟩ = some (.slice a1 M.length cM) := by simp [World.cell?, hR.pb]
        obtain ⟨_, _, hsh, _, _, hx⟩ := g1 wr hR.below
        simp only [Value.slice.injEq] at hsh
        obtain ⟨rfl, _, rfl⟩ := hsh
        obtain ⟨b, off, rfl, hblt, hcell⟩ : ∃ b off, a1 = some ⟨b, off, none⟩ ∧ b < wr.heap.size ∧ ∀ i, i < M.length → ∃ u, wr.cell? ⟨b, off + i, none⟩ = some u ∧ Ints wr u (M.getD i []) := by
          rcases hx with hx | hx
          · rw [hx] at hn1; simp at hn1
          · exact hx
        obtain ⟨u, c3, hI⟩ := hcell k hlt2
        have hrk := HRL.out k hlt2
        obtain ⟨ak, ck, rfl, _, _, _, hxk⟩ := hI
        obtain ⟨bk, ok, rfl, _, hck⟩ : ∃ b off, ak = some ⟨b, off, none⟩ ∧ b < wr.heap.size ∧ CellsAt wr b off (M.getD k []) := by
          rcases hxk with hx | hx
          · rw [hx] at hrk; simp at hrk; omega
          · exact hx
        have c5 := hck i (by omega)
        rw [hrk] at c3
        have hent : (M.getD k []).getD i 0 = ent M k i := rfl
        rw [hent] at c5
        have hl : (tab M.length (stepK M f i k)).length = M.length := tab_length _ _
        have htp := hR.rows.own.top
        have hul := hR.rows.own.len
        have hro := hR.rows.own.rows k (by omega)
        rw [tab_row _ _ _ hlt2] at hro
        obtain ⟨gr, cr, hur⟩ := own_nonempty hro (by intro c; have := congrArg List.length c; rw [row_length, List.length_nil] at this; omega)
        rw [row_length] at hur
        rw [hur] at hro
        have c6 : wr.cell? ⟨gr, i, none⟩ = some (.int .i64 (stepK M f i k k i)) := by
          rw [own_cellN hro (row_length _ _).symm hi, row_getD _ _ _ hi]
        have c7 : wr.frozen? ⟨gr, i, none⟩ = false := own_frozenN hro (row_length _ _).symm i
        have c8 : wr.cell? ⟨w1.heap.size, k, none⟩ = some (.slice (some ⟨gr, 0, none⟩) M.length cr) := by
          rw [hl] at htp hul
          rw [World.ownsRow.cellAt htp k (by omega), ← hur]
          simp [hul, hlt2]
        have hgrz := (HF2.out.rows k gr (by rw [tab_length]; exact hlt2) (by rw [hur]; rfl)).2
        have hst := (hR.setRow (i := i) hlt2 hur).drew
        have hko := (hKO.trans (KeepsOthers.setCell wr ⟨gr, i, none⟩ (.int .i64 (- ent M k i)))).trans (KeepsOthers.drew _)
        have hkb : KB (w2.heap.size + 1) W (wr.setCell ⟨gr, i, none⟩ (.int .i64 (- ent M k i))).drew := (Below.heap_setCell wr ⟨gr, i, none⟩ _ _ (by show w2.heap.size + 1 ≠ gr; omega)).trans hKB
        have HST := Lib.hid hst
        have HKO := Lib.hid hko
        have HKB := Lib.hid hkb
        obtain ⟨hbd1, hbd2⟩ := HME.out k i hlt2 hi
        clear hst hko hkb hKO hKB hR htp hul hro hck hcell hrk hl hxk hx hent hur
        generalize stepK M f i k k i = y at *
        generalize ent M k i = z at *
        gi_wp2
        refine PR.wpIn_region_still_tail 15 hmx (by kernel_rfl) (by kernel_rfl) ?_
        simp only [List.take_succ_cons, List.take_zero, List.drop_succ_cons, List.drop_zero]
        repeat still_step
        refine wpStill_nil ?_
        gi_wp2
        exact ⟨⟨k + 1, by omega, by go_num, HST.out, HKO.out, HKB.out⟩, by simp [intOf]; omega⟩
      · obtain rfl : k = M.length := by omega
        have hend : Cl w wr w2.heap.size w1.heap.size M.length (.slice a1 M.length cM) (.slice a2 Q.length c2) (colG M ((pre ++ [(⟨i, hi⟩ : Fin M.length)]).map Fin.val)) us := by
          refine ⟨?_, hR.box, hR.pb, hR.below⟩
          have h1 := hR.rows
          rw [HF.out, stepK_all] at h1
          simpa using h1
        have HEND := Lib.hid hend
        have HKO := Lib.hid hKO
        have HKB := Lib.hid hKB
        clear hend hKO hKB hR
        gi_wp2
        exact ⟨HKO.out, HKB.out, HEND.out⟩
  case done =>
    rintro D xs W hD rfl hCl hK
    have c1 := hCl.box.cell
    have HCL := Lib.hid hCl
    clear hCl
    gi_wp2
    refine ⟨by simp, .inl ⟨_, _, rfl, run_takeDeferred hK, ?_⟩⟩
    refine ⟨.tuple #[.slice (some ⟨w1.heap.size, 0, none⟩) M.length M.length, .int .i64 0], by simp [results, Tryd.results87, go_sem], ?_⟩
    have hkc : KC W (W.putObj D (.deferred none)) := KC.of (grownBy_putObj' W D (.deferred none)) (fun r e => by cases e; exact ⟨_, hK, rfl⟩)
    have hbw : Below w.heap.size W (W.putObj D (.deferred none)) := belowK_b (w := w) (Nat.le_refl _) W D _ _ (by omega) hK rfl rfl
    exact ⟨_, us, rfl, (hkc.fresh HCL.out.rows).mono (by omega), HCL.out.below.trans hbw⟩
  case stop =>
    rintro D c pre W _ _ h _
    exact h.elim
end Go.Proofs.YtbcclhdfpboidaaDoor.PW
