/-
  Walks: the determinant along the first row, in the model.
  Walks: the determinant along the first row, in the model: the recursion.
-/
import Derived.Test.YtgncaploccbfnaaPDetX
import Derived.Deep.RegionLaw
import Derived.Deep.RegionHeldLaw
namespace Go.Proofs.Ytgncaploccbfnaa.PS
open Go
/-- Append at a step of a region: to a slice that is not nil, of whatever number of elements. -/
theorem step_append {P : Program} {w : World} {ops : Array Oper} {o : Oper} {a : Act} {K : Act → World → Prop} {Q : Exit → Act → World → Prop} {E : Prop} (hgd : o.guard = none) (s x : Operand) (t : TypeId)
    (ho : o.op = .call { callee := .builtin .append, args := #[s, x], argTypes := #[t, t] })
    (base : Nat) (e : TypeId) (i : TypeInfo) (z : Value) (size bytes : Nat) (ht : P.underlying t = some (.slice e)) (hi : P.info? e = some i) (hz : i.zero = some z)
    (hsize : i.size = size) (hby : i.bytes = bytes) (hzs : z.cells.size = size) (hsz : 0 < size)
    (v : Value) (n : Nat) (xs : List Value) (hs : a.eval s = v) (hown : w.ownsRow base e size v n xs) (hv : v ≠ .slice none 0 0)
    (ad : Addr) (m c : Nat) (news : List Value) (hx : a.eval x = .slice (some ad) m c) (hl : news.length = m * size) (hnews : ∀ j u, news[j]? = some u → w.cell? (ad.add j) = some u) (h1 : ∀ u ∈ news, u.oneCell' = true)
    (h63 : n + m ≤ maxLen) (hbytes : (n + m) * bytes ≤ 140737488355328) (hbase : base ≤ w.heap.size)
    (h : ∀ g cap w', w'.ownsRow base e size (.slice (some ⟨g, 0, none⟩) (n + m) cap) (n + m) (xs ++ news) → w.grownBy w' v.ownBlock → base ≤ g → g < w'.heap.size → K (a.put o.dst (.slice (some ⟨g, 0, none⟩) (n + m) cap)) w') :
    if Region.wanted o (yielded ops a.tmps) = true then Oper.wp P o a w K Q else E := by
  have hw : Region.wanted o (yielded ops a.tmps) = true := by simp [Region.wanted, hgd]
  rw [if_pos hw]
  refine wp_append_own w s x t ho base e i z size bytes ht hi hz hsize hby hzs hsz v n xs hs hown ad m c news hx hl hnews h1 h63 hbytes hbase fun v' w' h2 h3 h4 => ?_
  rcases h2.2 with ⟨hn, _⟩ | ⟨g, cap, cur, rfl, hb, hg, r⟩
  · exact absurd (h4.1 hn).1 hv
  · refine h g cap w' h2 h3 hb ?_
    rcases Nat.lt_or_ge g w'.heap.size with h' | h'
    · exact h'
    · rw [Array.getElem?_eq_none h'] at hg; cases hg
end Go.Proofs.Ytgncaploccbfnaa.PS
namespace Go.Proofs.Ytgncaploccbfnaa.PW
open Go.RowKit Go.Proofs.Ytgncaploccbfnaa
open Go.Proofs.Ytgncaploccbfnaa.PM Go.Proofs.Ytgncaploccbfnaa.PX

theorem l01Own_at (b off len cap : Nat) (xs : List Int) (w : World) (hl : xs.length = len) (hlt : b < w.heap.size) (hcell : CellsAt w b off xs) (hn : xs.length ≤ 1048576) :
    Calls Try.prog 105 #[.slice (some ⟨b, off, none⟩) len cap] w fun e w' => ∃ u, e = .returned u ∧ FreshI w.heap.size w' u xs ∧ Below w.heap.size w w' := by
  subst hl
  obtain ⟨i0, hi, hz0, hz1, hz2⟩ := info_parts info_int
  have HC := Lib.hid hcell
  clear hcell
  go_enter Try.func105, Try.ntmps105
  go_wp2_with (at_builtin; refine wpList_append_own _ rfl _ _ 23 rfl w.heap.size 2 i0 (.int .i64 0) 1 8 Try.underlying23 hi hz0 hz1 hz2 rfl (by decide) _ _ _ rfl (World.ownsRow_made w #[] 0 (Nat.le_refl _) (Nat.zero_le _) rfl) ⟨b, off, none⟩ xs.length cap (xs.map (Value.int .i64)) rfl ?c0 ?c1 ?c2 ?c3 ?c4 ?c5 ?_)
  case c0 => simp
  case c1 =>
    intro j u hj
    have h2 : ∀ i, i < xs.length → (w.alloc (.cells #[] 2)).cell? ⟨b, off + i, none⟩ = some (.int .i64 (xs.getD i 0)) := fun i hi => (World.cell?_alloc_lt w _ ⟨b, off + i, none⟩ hlt).trans (HC.out i hi)
    exact news_at (w := w.alloc (.cells #[] 2)) h2 j u hj
  case c2 => intro u hu; simp at hu; obtain ⟨x, _, rfl⟩ := hu; rfl
  case c3 => unfold maxLen; omega
  case c4 => omega
  case c5 => simp
  intro v' w1 hown hgrow hnil
  go_wp2_with fail
  go_ret
  have hne : v' ≠ .slice none 0 0 := fun c => by simp [c] at hnil
  (try simp only [List.nil_append, Nat.zero_add] at hown)
  refine ⟨v', rfl, fresh_of_row hown hne, ?_⟩
  exact ((Below.refl _ _).alloc (Nat.le_refl _) _).grown hgrow (by simp) (fun k hk => by simp [Value.ownBlock] at hk; omega)

/-! ### The mathematics -/
theorem sumTo_congr {f g : Nat → Int} {n : Nat} (h : ∀ k, k < n → f k = g k) : sumTo f n = sumTo g n := by
  induction n with
  | zero => rfl
  | succ n ih => rw [sumTo, sumTo, ih (fun k hk => h k (by omega)), h n (by omega)]
theorem dt_congr (n : Nat) : ∀ (f g : Nat → Nat → Int), (∀ i j, i < n → j < n → f i j = g i j) → dt n f = dt n g := by
  induction n with
  | zero => intro f g _; rfl
  | succ n ih =>
    intro f g h
    rw [dt, dt]
    refine sumTo_congr (fun k hk => ?_)
    rw [h 0 k (by omega) hk, ih (del k f) (del k g) (fun i j hi hj => by unfold del; exact h _ _ (by omega) (by split <;> omega))]
/-- Bounds along the first row. -/
def capD : Nat → Int
  | 0 => 1
  | n + 1 => ((n : Int) + 1) * (100 * capD n)
theorem capD_nonneg (n : Nat) : 0 ≤ capD n := by
  induction n with
  | zero => decide
  | succ n ih => exact Int.mul_nonneg (by omega) (Int.mul_nonneg (by decide) ih)
theorem capD_le {n : Nat} (h : n ≤ 5) : capD n ≤ 1200000000000 := by
  obtain rfl | rfl | rfl | rfl | rfl | rfl : n = 0 ∨ n = 1 ∨ n = 2 ∨ n = 3 ∨ n = 4 ∨ n = 5 := by omega
  all_goals decide
theorem sgn_bd (k : Nat) {B x : Int} (h : Bd B x) : Bd B (sgn k * x) := by
  unfold sgn
  split
  · have := h.neg; simpa using this
  · simpa using h
theorem sumTo_bd {f : Nat → Int} {B : Int} (h : ∀ k, Bd B (f k)) : ∀ (n : Nat), Bd ((n : Int) * B) (sumTo f n) := by
  intro n
  induction n with
  | zero => show Bd _ (0 : Int); unfold Bd; simp
  | succ n ih =>
    have := ih.add (h n)
    rw [sumTo]
    have e : ((n + 1 : Nat) : Int) * B = (n : Int) * B + B := by rw [Int.natCast_add, Int.add_mul]; simp
    rw [e]
    exact this
theorem dt_bd (n : Nat) : ∀ (f : Nat → Nat → Int), (∀ i j, Bd 100 (f i j)) → Bd (capD n) (dt n f) := by
  induction n with
  | zero => intro f _; show Bd 1 (1 : Int); unfold Bd; omega
  | succ n ih =>
    intro f h
    rw [dt]
    have := sumTo_bd (f := fun k => sgn k * (f 0 k * dt n (del k f))) (B := 100 * capD n) (fun k => sgn_bd k ((h 0 k).mul (ih (del k f) (fun i j => h _ _)))) (n + 1)
    rw [capD]
    have e : ((n + 1 : Nat) : Int) = (n : Int) + 1 := by omega
    rw [e] at this
    exact this
/-- A row without its k-th number. -/
theorem row_del {n k : Nat} {xs : List Int} (hl : xs.length = n + 1) (hk : k < n + 1) (f : Nat → Int) (hf : ∀ j, j < n + 1 → xs.getD j 0 = f j) : xs.take k ++ xs.drop (k + 1) = (List.range n).map fun j => f (if j < k then j else j + 1) := by
  apply List.ext_getElem
  · simp; omega
  · intro j h1 h2
    simp at h2
    simp only [List.getElem_map, List.getElem_range]
    by_cases hj : j < k
    · rw [if_pos hj, List.getElem_append_left (by simp; omega), ← hf j (by omega), getD_at xs 0 (by omega : j < xs.length)]
      simp
    · rw [if_neg hj, List.getElem_append_right (by simp; omega), ← hf (j + 1) (by omega), getD_at xs 0 (by omega : j + 1 < xs.length)]
      simp only [List.length_take, List.getElem_drop]
      congr 1
      omega
end Go.Proofs.Ytgncaploccbfnaa.PW
namespace Go.Proofs.Ytgncaploccbfnaa.PW
open Go.RowKit Go.Proofs.Ytgncaploccbfnaa
open Go.Proofs.Ytgncaploccbfnaa.PM Go.Proofs.Ytgncaploccbfnaa.PX

theorem FreshI.ownsB {B C : Nat} {w : World} {v : Value} {xs : List Int} (h : FreshI B w v xs) (hC : C ≤ B) {n : Nat} (hn : n = xs.length) : w.ownsRow C 2 1 v n (xs.map (Value.int .i64)) := by
  obtain ⟨g, cap, hv, hB, hlt, ho⟩ := h
  subst hn
  refine ⟨ho.1, ?_⟩
  rcases ho.2 with h2 | ⟨g', cap', cur, hv', hb, r⟩
  · exact .inl h2
  · refine .inr ⟨g', cap', cur, hv', ?_, r⟩
    rw [hv] at hv'
    simp only [Value.slice.injEq, Option.some.injEq, Addr.mk.injEq, and_true, true_and] at hv'
    omega
theorem freshI_of {B n g cap : Nat} {w : World} {xs ys : List Int} (h : w.ownsRow B 2 1 (.slice (some ⟨g, 0, none⟩) n cap) n (xs.map (Value.int .i64) ++ ys.map (Value.int .i64))) (hn : n = (xs ++ ys).length) (hB : B ≤ g) (hlt : g < w.heap.size) : FreshI B w (.slice (some ⟨g, 0, none⟩) n cap) (xs ++ ys) := by
  subst hn
  refine ⟨g, cap, rfl, hB, hlt, ?_⟩
  have := own_base' h
  rw [← List.map_append] at this
  exact this

/-- A number of the determinant along the first row. -/
def lapF (n : Nat) (e : Nat → Nat → Int) (k : Nat) : Int := sgn k * (e 0 k * dt n (del k e))
theorem dt_succ (n : Nat) (e : Nat → Nat → Int) : dt (n + 1) e = sumTo (lapF n e) (n + 1) := rfl

theorem lap_push {W1 wr w3 w4 : World} {v u : Value} {n j g cap : Nat} {f : Nat → Nat → Int} {us : List Value} {t : TypeId} (hR : FreshR W1.heap.size wr v ((List.range (j - 1)).map fun a => (List.range n).map (f a)) us) (hB : Below W1.heap.size W1 wr)
    (hf : FreshI wr.heap.size w3 u ((List.range n).map (f (j - 1)))) (hk : Below wr.heap.size wr w3)
    (hown : w4.ownsRow 0 23 1 (.slice (some ⟨g, 0, none⟩) (j - 1 + 1) cap) (j - 1 + 1) (us ++ [u])) (hgrow : (w3.alloc (.cells #[u] t)).grownBy w4 v.ownBlock) (hat : v.ownBlock = some g ∨ g = (w3.alloc (.cells #[u] t)).heap.size) (hlt : g < w4.heap.size) (hj : 1 ≤ j) :
    FreshR W1.heap.size w4 (.slice (some ⟨g, 0, none⟩) j cap) ((List.range (j + 1 - 1)).map fun a => (List.range n).map (f a)) (us ++ [u]) ∧ Below W1.heap.size W1 w4 := by
  have hlen : ((List.range (j - 1)).map fun a => (List.range n).map (f a)).length = j - 1 := by simp
  have ha : Below w3.heap.size w3 (w3.alloc (.cells #[u] t)) := (Below.refl _ _).alloc (Nat.le_refl _) _
  have hka : Below wr.heap.size wr (w3.alloc (.cells #[u] t)) := hk.trans (ha.mono hk.size)
  have h1 := hR.push hB.size (hf.below ha) hka (C := 0) (by rw [hlen]; exact hown) hgrow hat hlt
  rw [hlen, ← tab_snoc, show j - 1 + 1 = j by omega] at h1
  refine ⟨h1, ?_⟩
  obtain ⟨gv, cv, hv, hv1, hv2⟩ := hR.top
  exact (hB.trans (hka.mono hB.size)).grown hgrow (by have := hka.size; have := hB.size; omega) (fun b hb' => by rw [hv] at hb'; simp [Value.ownBlock] at hb'; omega)
end Go.Proofs.Ytgncaploccbfnaa.PW
