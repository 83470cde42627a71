/-
  Walks: the determinant along the first row, in the model.
  Walks: the determinant along the first row, in the model: the recursion.
-/
import Derived.Test.YtoglmkjmnknbbaaPDetX
import Derived.Deep.RegionLaw
import Derived.Deep.RegionHeldLaw
namespace Go.Proofs.Ytoglmkjmnknbbaa.PS
open Go
/-- Append at a step of a region: to a slice that is not nil, of whatever number of elements. -/
theorem step_append {P : Program} {w : World} {ops : Array Oper} {o : Oper} {a : Act} {K : Act → World → Prop} {Q : Exit → Act → World → Prop} {E : Prop} (hgd : o.guard = none) (s x : Operand) (t : TypeId)
    (ho : o.op = .call { callee := .builtin .append, args := #[s, x], argTypes := #[t, t] })
    (base : Nat) (e : TypeId) (i : TypeInfo) (z : Value) (size bytes : Nat) (ht : P.underlying t = some (.slice e)) (hi : P.info? e = some i) (hz : i.zero = some z)
    (hsize : i.size = size) (hby : i.bytes = bytes) (hzs : z.cells.size = size) (hsz : 0 < size)
    (v : Value) (n : Nat) (xs : List Value) (hs : a.eval s = v) (hown : w.ownsRow base e size v n xs) (hv : v ≠ .slice none 0 0)
    (ad : Addr) (m c : Nat) (news : List Value) (hx : a.eval x = .slice (some ad) m c) (hl : news.length = m * size) (hnews : ∀ j u, news[j]? = some u → w.cell? (ad.add j) = some u) (h1 : ∀ u ∈ news, u.oneCell' = true)
    (h63 : n + m ≤ maxLen) (hbytes : (n + m) * bytes ≤ 140737488355328) (hbase : base ≤ w.heap.size)
    (h : ∀ g cap w', w'.ownsRow base e size (.slice (some ⟨g, 0, none⟩) (n + m) cap) (n + m) (xs ++ news) → w.grownBy w' v.ownBlock → base ≤ g → g < w'.heap.size → K (a.put o.dst (.slice (some ⟨g, 0, none⟩) (n + m) cap)) w') :
    if Region.wanted o (yielded ops a.tmps) = true then Oper.wp P o a w K Q else E := by
  have hw : Region.wanted o (yielded ops a.tmps) = true := by simp [Region.wanted, hgd]
  rw [if_pos hw]
  refine wp_append_own w s x t ho base e i z size bytes ht hi hz hsize hby hzs hsz v n xs hs hown ad m c news hx hl hnews h1 h63 hbytes hbase fun v' w' h2 h3 h4 => ?_
  rcases h2.2 with ⟨hn, _⟩ | ⟨g, cap, cur, rfl, hb, hg, r⟩
  · exact absurd (h4.1 hn).1 hv
  · refine h g cap w' h2 h3 hb ?_
    rcases Nat.lt_or_ge g w'.heap.size with h' | h'
    · exact h'
    · rw [Array.getElem?_eq_none h'] at hg; cases hg
end Go.Proofs.Ytoglmkjmnknbbaa.PS
namespace Go.Proofs.Ytoglmkjmnknbbaa.PW
open Go.RowKit Go.Proofs.Ytoglmkjmnknbbaa
open Go.Proofs.Ytoglmkjmnknbbaa.PM Go.Proofs.Ytoglmkjmnknbbaa.PX

theorem l01Own_at (b off len cap : Nat) (xs : List Int) (w : World) (hl : xs.length = len) (hlt : b < w.heap.size) (hcell : CellsAt w b off xs) (hn : xs.length ≤ 1048576) :
    Calls Try.prog 118 #[.slice (some ⟨b, off, none⟩) len cap] w fun e w' => ∃ u, e = .returned u ∧ FreshI w.heap.size w' u xs ∧ Below w.heap.size w w' := by
  subst hl
  obtain ⟨i0, hi, hz0, hz1, hz2⟩ := info_parts info_int
  have HC := Lib.hid hcell
  clear hcell
  go_enter Try.func118, Try.ntmps118
  go_wp2_with (at_builtin; refine wpList_append_own _ rfl _ _ 23 rfl w.heap.size 2 i0 (.int .i64 0) 1 8 Try.underlying23 hi hz0 hz1 hz2 rfl (by decide) _ _ _ rfl (World.ownsRow_made w #[] 0 (Nat.le_refl _) (Nat.zero_le _) rfl) ⟨b, off, none⟩ xs.length cap (xs.map (Value.int .i64)) rfl ?c0 ?c1 ?c2 ?c3 ?c4 ?c5 ?_)
  case c0 => simp
  case c1 =>
    intro j u hj
    have h2 : ∀ i, i < xs.length → (w.alloc (.cells #[] 2)).cell? ⟨b, off + i, none⟩ = some (.int .i64 (xs.getD i 0)) := fun i hi => (World.cell?_alloc_lt w _ ⟨b, off + i, none⟩ hlt).trans (HC.out i hi)
    exact news_at (w := w.alloc (.cells #[] 2)) h2 j u hj
  case c2 => intro u hu; simp at hu; obtain ⟨x, _, rfl⟩ := hu; rfl
  case c3 => unfold maxLen; omega
  case c4 => omega
  case c5 => simp
  intro v' w1 hown hgrow hnil
  go_wp2_with fail
  go_ret
  have hne : v' ≠ .slice none 0 0 := fun c => by simp [c] at hnil
  (try simp only [List.nil_append, Nat.zero_add] at hown)
  refine ⟨v', rfl, fresh_of_row hown hne, ?_⟩
  exact ((Below.refl _ _).alloc (Nat.le_refl _) _).grown hgrow (by simp) (fun k hk => by simp [Value.ownBlock] at hk; omega)

/-! ### The mathematics -/
theorem sumTo_congr {f g : Nat → Int} {n : Nat} (h : ∀ k, k < n → f k = g k) : sumTo f n = sumTo g n := by
  induction n with
  | zero => rfl
  | succ n ih => rw [sumTo, sumTo, ih (fun k hk => h k (by omega)), h n (by omega)]
theorem dt_congr (n : Nat) : ∀ (f g : Nat → Nat → Int), (∀ i j, i < n → j < n → f i j = g i j) → dt n f = dt n g := by
  induction n with
  | zero => intro f g _; rfl
  | succ n ih =>
    intro f g h
    rw [dt, dt]
    refine sumTo_congr (fun k hk => ?_)
    rw [h 0 k (by omega) hk, ih (del k f) (del k g) (fun i j hi hj => by unfold del; exact h _ _ (by omega) (by split <;> omega))]
/-- Bounds along the first row. -/
def capD : Nat → Int
  | 0 => 1
  | n + 1 => ((n : Int) + 1) * (100 * capD n)
theorem capD_nonneg (n : Nat) : 0 ≤ capD n := by
  induction n with
  | zero => decide
  | succ n ih => exact Int.mul_nonneg (by omega) (Int.mul_nonneg (by decide) ih)
theorem capD_le {n : Nat} (h : n ≤ 5) : capD n ≤ 1200000000000 := by
  obtain rfl | rfl | rfl | rfl | rfl | rfl : n = 0 ∨ n = 1 ∨ n = 2 ∨ n = 3 ∨ n = 4 ∨ n = 5 := by omega
  all_goals decide
theorem sgn_bd (k : Nat) {B x : Int} (h : Bd B x) : Bd B (sgn k * x) := by
  unfold sgn
  split
  · have := h.neg; simpa using this
  · simpa using h
theorem sumTo_bd {f : Nat → Int} {B : Int} (h : ∀ k, Bd B (f k)) : ∀ (n : Nat), Bd ((n : Int) * B) (sumTo f n) := by
  intro n
  induction n with
  | zero => show Bd _ (0 : Int); unfold Bd; simp
  | succ n ih =>
    have := ih.add (h n)
    rw [sumTo]
    have e : ((n + 1 : Nat) : Int) * B = (n : Int) * B + B := by rw [Int.natCast_add, Int.add_mul]; simp
    rw [e]
    exact this
theorem dt_bd (n : Nat) : ∀ (f : Nat → Nat → Int), (∀ i j, Bd 100 (f i j)) → Bd (capD n) (dt n f) := by
  induction n with
  | zero => intro f _; show Bd 1 (1 : Int); unfold Bd; omega
  | succ n ih =>
    intro f h
    rw [dt]
    have := sumTo_bd (f := fun k => sgn k * (f 0 k * dt n (del k f))) (B := 100 * capD n) (fun k => sgn_bd k ((h 0 k).mul (ih (del k f) (fun i j => h _ _)))) (n + 1)
    rw [capD]
    have e : ((n + 1 : Nat) : Int) = (n : Int) + 1 := by omega
    rw [e] at this
    exact this
/-- A row without its k-th number. -/
theorem row_del {n k : Nat} {xs : List Int} (hl : xs.length = n + 1) (hk : k < n + 1) (f : Nat → Int) (hf : ∀ j, j < n + 1 → xs.getD j 0 = f j) : xs.take k ++ xs.drop (k + 1) = (List.range n).map fun j => f (if j < k then j else j + 1) := by
  apply List.ext_getElem
  · simp; omega
  · intro j h1 h2
    simp at h2
    simp only [List.getElem_map, List.getElem_range]
    by_cases hj : j < k
    · rw [if_pos hj, List.getElem_append_left (by simp; omega), ← hf j (by omega), getD_at xs 0 (by omega : j < xs.length)]
      simp
    · rw [if_neg hj, List.getElem_append_right (by simp; omega), ← hf (j + 1) (by omega), getD_at xs 0 (by omega : j + 1 < xs.length)]
      simp only [List.length_take, List.getElem_drop]
      congr 1
      omega
end Go.Proofs.Ytoglmkjmnknbbaa.PW
namespace Go.Proofs.Ytoglmkjmnknbbaa.PW
open Go.RowKit Go.Proofs.Ytoglmkjmnknbbaa
open Go.Proofs.Ytoglmkjmnknbbaa.PM Go.Proofs.Ytoglmkjmnknbbaa.PX

theorem FreshI.ownsB {B C : Nat} {w : World} {v : Value} {xs : List Int} (h : FreshI B w v xs) (hC : C ≤ B) {n : Nat} (hn : n = xs.length) : w.ownsRow C 2 1 v n (xs.map (Value.int .i64)) := by
  obtain ⟨g, cap, hv, hB, hlt, ho⟩ := h
  subst hn
  refine ⟨ho.1, ?_⟩
  rcases ho.2 with h2 | ⟨g', cap', cur, hv', hb, r⟩
  · exact .inl h2
  · refine .inr ⟨g', cap', cur, hv', ?_, r⟩
    rw [hv] at hv'
    simp only [Value.slice.injEq, Option.some.injEq, Addr.mk.injEq, and_true, true_and] at hv'
    omega
theorem freshI_of {B n g cap : Nat} {w : World} {xs ys : List Int} (h : w.ownsRow B 2 1 (.slice (some ⟨g, 0, none⟩) n cap) n (xs.map (Value.int .i64) ++ ys.map (Value.int .i64))) (hn : n = (xs ++ ys).length) (hB : B ≤ g) (hlt : g < w.heap.size) : FreshI B w (.slice (some ⟨g, 0, none⟩) n cap) (xs ++ ys) := by
  subst hn
  refine ⟨g, cap, rfl, hB, hlt, ?_⟩
  have := own_base' h
  rw [← List.map_append] at this
  exact this

/-- A number of the determinant along the first row. -/
def lapF (n : Nat) (e : Nat → Nat → Int) (k : Nat) : Int := sgn k * (e 0 k * dt n (del k e))
theorem dt_succ (n : Nat) (e : Nat → Nat → Int) : dt (n + 1) e = sumTo (lapF n e) (n + 1) := rfl

theorem lap_push {W1 wr w3 w4 : World} {v u : Value} {n j g cap : Nat} {f : Nat → Nat → Int} {us : List Value} {t : TypeId} (hR : FreshR W1.heap.size wr v ((List.range (j - 1)).map fun a => (List.range n).map (f a)) us) (hB : Below W1.heap.size W1 wr)
    (hf : FreshI wr.heap.size w3 u ((List.range n).map (f (j - 1)))) (hk : Below wr.heap.size wr w3)
    (hown : w4.ownsRow 0 23 1 (.slice (some ⟨g, 0, none⟩) (j - 1 + 1) cap) (j - 1 + 1) (us ++ [u])) (hgrow : (w3.alloc (.cells #[u] t)).grownBy w4 v.ownBlock) (hat : v.ownBlock = some g ∨ g = (w3.alloc (.cells #[u] t)).heap.size) (hlt : g < w4.heap.size) (hj : 1 ≤ j) :
    FreshR W1.heap.size w4 (.slice (some ⟨g, 0, none⟩) j cap) ((List.range (j + 1 - 1)).map fun a => (List.range n).map (f a)) (us ++ [u]) ∧ Below W1.heap.size W1 w4 := by
  have hlen : ((List.range (j - 1)).map fun a => (List.range n).map (f a)).length = j - 1 := by simp
  have ha : Below w3.heap.size w3 (w3.alloc (.cells #[u] t)) := (Below.refl _ _).alloc (Nat.le_refl _) _
  have hka : Below wr.heap.size wr (w3.alloc (.cells #[u] t)) := hk.trans (ha.mono hk.size)
  have h1 := hR.push hB.size (hf.below ha) hka (C := 0) (by rw [hlen]; exact hown) hgrow hat hlt
  rw [hlen, ← tab_snoc, show j - 1 + 1 = j by omega] at h1
  refine ⟨h1, ?_⟩
  obtain ⟨gv, cv, hv, hv1, hv2⟩ := hR.top
  exact (hB.trans (hka.mono hB.size)).grown hgrow (by have := hka.size; have := hB.size; omega) (fun b hb' => by rw [hv] at hb'; simp [Value.ownBlock] at hb'; omega)
theorem l01Det_zero (a : Option Addr) (cap : Nat) (w : World) :
    Calls Try.prog 138 #[.slice a 0 cap] w fun e w' => e = .returned (.int .i64 1) ∧ w = w' := by
  go_enter Try.func138, Try.ntmps138
  go_wp2_with fail
  go_ret
  exact ⟨rfl, rfl⟩

set_option maxRecDepth 100000 in
set_option maxHeartbeats 4000000 in
theorem l01Det_succ (n N : Nat) (hn : n ≤ 4) (hN1 : n + 1 ≤ N) (hN2 : N ≤ n + 1) (ih : ∀ (v : Value) (w : World) (e : Nat → Nat → Int), PM.Rows w v (tab n e) → (∀ i j, Bd 100 (e i j)) → Calls Try.prog 138 #[v] w fun r w' => r = .returned (.int .i64 (dt n e)) ∧ Below w.heap.size w w')
    (v : Value) (w : World) (e : Nat → Nat → Int) (hv : PM.Rows w v (tab N e)) (hb : ∀ i j, Bd 100 (e i j)) :
    Calls Try.prog 138 #[v] w fun r w' => r = .returned (.int .i64 (sumTo (lapF n e) N)) ∧ Below w.heap.size w w' := by
  obtain ⟨a1, c1, rfl, _, _, hx⟩ := hv
  have htl := tab_length N e
  obtain ⟨b, off, rfl, hblt, hcell⟩ : ∃ b off, a1 = some ⟨b, off, none⟩ ∧ b < w.heap.size ∧ ∀ i, i < N → ∃ u, w.cell? ⟨b, off + i, none⟩ = some u ∧ Ints w u ((List.range N).map (e i)) := by
    rcases hx with hx | ⟨b, off, h1, h2, h3⟩
    · rw [hx] at htl; simp at htl; omega
    · exact ⟨b, off, h1, h2, fun i hi => by rw [← tab_row _ _ _ hi]; exact h3 i (by omega)⟩
  rw [htl]
  -- a row as it lies
  have hrow : ∀ i, i < N → ∃ bi oi ci, w.cell? ⟨b, off + i, none⟩ = some (.slice (some ⟨bi, oi, none⟩) N ci) ∧ N ≤ ci ∧ bi < w.heap.size ∧ CellsAt w bi oi ((List.range N).map (e i)) := by
    intro i hi
    obtain ⟨u, hu, ai, ci, hsh, hci, _, _, hxx⟩ := hcell i hi
    rcases hxx with hxx | ⟨bi, oi, rfl, hbi, hce⟩
    · have := congrArg List.length hxx; rw [row_length, List.length_nil] at this; omega
    · rw [row_length] at hsh hci
      exact ⟨bi, oi, ci, by rw [hu, hsh], hci, hbi, hce⟩
  have HROW := Lib.hid hrow
  have HB := Lib.hid hb
  have IH := Lib.hid ih
  have hF : ∀ k, lapF n e k = sgn k * (e 0 k * dt n (del k e)) := fun k => rfl
  have HF := Lib.hid hF
  have hDB := fun k => (dt_bd n (del k e) (fun i j => hb _ _)).mono (capD_le (by omega : n ≤ 5))
  have HDB := Lib.hid hDB
  have hSB := fun k => sumTo_bd (f := lapF n e) (B := 120000000000000) (fun k => by rw [hF]; exact sgn_bd k (((hb 0 k).mul (hDB k)).mono (by decide))) k
  have HSB := Lib.hid hSB
  obtain ⟨i0, hi, hzz0, hzz1, hzz2⟩ := info_parts info_ints
  obtain ⟨j0, hj, hyy0, hyy1, hyy2⟩ := info_parts info_int
  clear hx htl hcell hrow hb ih hF hDB hSB
  have hbN : ((N : Int) == 0) = false := by rw [beq_eq_false_iff_ne]; omega
  go_enter Try.func138, Try.ntmps138
  go_wp2_with fail
  go_loopw [3, 4, 5, 6, 7] (fun sm i _ _ _ wr => ∃ k : Nat, k ≤ N ∧ i = .int .i64 k ∧ sm = .int .i64 (sumTo (lapF n e) k) ∧ Below w.heap.size w wr) (fun _ i _ _ _ _ => N - (intOf i).toNat)
  case atStart => exact ⟨0, Nat.zero_le _, rfl, rfl, Below.refl _ _⟩
  case round =>
    obtain ⟨k, hk, rfl, rfl, hBw⟩ := hrel
    by_cases hlt : k < N
    · obtain ⟨b0, o0, c0, t0, hc0, hb0, hce0⟩ := HROW.out 0 (by omega)
      have t0w := (hBw.cell (p := ⟨b, off + 0, none⟩) hblt).trans t0
      have e0 := hce0 k (by rw [row_length]; exact hlt)
      rw [row_getD _ _ _ hlt] at e0
      have e0w := (hBw.cell (p := ⟨b0, o0 + k, none⟩) hb0).trans e0
      rw [Nat.add_zero] at t0w t0
      have hn0 : 0 < N := by omega
      have hsb := HSB.out k
      have hsb1 := HSB.out (k + 1)
      have hbx := HB.out 0 k
      have hfk := HF.out k
      unfold Bd at hsb hsb1 hbx
      obtain ⟨hsb1a, hsb1b⟩ := hsb1
      obtain ⟨hsba, hsbb⟩ := hsb
      obtain ⟨hbxa, hbxb⟩ := hbx
      have HFK := Lib.hid hfk
      have hsum : sumTo (lapF n e) (k + 1) = sumTo (lapF n e) k + lapF n e k := rfl
      have HSUM := Lib.hid hsum
      clear hfk hsum hce0
      by_cases hx0 : e 0 k = 0
      · have h0 : sumTo (lapF n e) (k + 1) = sumTo (lapF n e) k := by rw [HSUM.out, HFK.out, hx0]; simp
        have H0 := Lib.hid h0
        have HBW := Lib.hid hBw
        rw [hx0] at e0w
        clear h0 hBw hx0 e0
        generalize sumTo (lapF n e) k = S at *
        go_wp2_with fail
        go_roundw
        case rel => exact ⟨k + 1, by omega, by go_num, by rw [H0.out], HBW.out⟩
        case measure => simp [intOf]; omega
      · have HBW := Lib.hid hBw
        have HX0 := Lib.hid hx0
        have hzw := hBw.size
        obtain ⟨W1, rfl⟩ : ∃ W1, W1 = wr := ⟨_, rfl⟩
        clear hBw e0 t0
        have HE0 := Lib.hid e0w
        have HT0 := Lib.hid t0w
        generalize hxe : e 0 k = x at *
        have HXE := Lib.hid hxe
        have hbx0 : (x == 0) = false := by rw [beq_eq_false_iff_ne]; exact HX0.out
        clear hxe
        go_wp2_with fail
        clear e0w t0w
        go_loopw [5, 6] (fun v i wr => ∃ (j : Nat) (us : List Value), 1 ≤ j ∧ j ≤ N ∧ i = .int .i64 j ∧ FreshR W1.heap.size wr v ((List.range (j - 1)).map fun a => (List.range n).map (del k e a)) us ∧ Below W1.heap.size W1 wr) (fun _ i _ => N - (intOf i).toNat)
        case atStart => exact ⟨1, [], Nat.le_refl _, by omega, rfl, freshR_nil W1, (Below.refl _ _).alloc (Nat.le_refl _) _⟩
        case round =>
          obtain ⟨j, us, hj1, hjn, rfl, hR, hB1⟩ := hrel
          by_cases hltj : j < N
          · obtain ⟨bi, oi, ci, ti, hci, hbi, hcei⟩ := HROW.out j hltj
            have hBww := HBW.out.trans (hB1.mono hzw)
            have tiw := (hBww.cell (p := ⟨b, off + j, none⟩) hblt).trans ti
            have r6 : ∀ w', Below wr.heap.size wr w' → w'.cell? ⟨b, off + j, none⟩ = some (.slice (some ⟨bi, oi, none⟩) N ci) := fun w' h => (h.cell (p := ⟨b, off + j, none⟩) (by show b < _; have := hBww.size; omega)).trans tiw
            have hzr := hB1.size
            have hcells : ∀ w', Below wr.heap.size wr w' → CellsAt w' bi oi ((List.range N).map (e j)) := fun w' h i hi => (h.cell (p := ⟨bi, oi + i, none⟩) (by show bi < _; have := hBww.size; omega)).trans ((hBww.cell (p := ⟨bi, oi + i, none⟩) hbi).trans (hcei i hi))
            have hcT : ∀ w', Below wr.heap.size wr w' → CellsAt w' bi oi (((List.range N).map (e j)).take k) := fun w' h i hi => by
              have hi' : i < k := by simp at hi; omega
              rw [hcells w' h i (by simp; omega)]
              simp [hi', show i < N by omega]
            have hcD : ∀ w', Below wr.heap.size wr w' → CellsAt w' bi (oi + (k + 1)) (((List.range N).map (e j)).drop (k + 1)) := fun w' h i hi => by
              have hi' : k + 1 + i < N := by simp at hi; omega
              have := hcells w' h (k + 1 + i) (by simp; omega)
              rw [show oi + (k + 1) + i = oi + (k + 1 + i) by omega, this]
              simp [hi', show i < N - (k + 1) by omega]
            have hrd := row_del (n := n) (k := k) (xs := (List.range N).map (e j)) (by rw [row_length]; omega) (by omega) (e j) (fun a ha => row_getD _ _ _ (by omega))
            have hrd2 : (List.range n).map (fun a => e j (if a < k then a else a + 1)) = (List.range n).map (del k e (j - 1)) := by unfold del; rw [show j - 1 + 1 = j by omega]
            rw [hrd2] at hrd
            have HRD := Lib.hid hrd
            have HCT := Lib.hid hcT
            have HCD := Lib.hid hcD
            have hltk : (((List.range N).map (e j)).take k).length = k := by simp; omega
            have hldk : (((List.range N).map (e j)).drop (k + 1)).length = N - (k + 1) := by simp
            have HLT := Lib.hid hltk
            have HLD := Lib.hid hldk
            clear hrd2
            generalize ((List.range N).map (e j)).take k = TT at *
            generalize ((List.range N).map (e j)).drop (k + 1) = DD at *
            have HR := Lib.hid hR
            have HB1 := Lib.hid hB1
            have how : ∀ w', Below wr.heap.size wr w' → w'.ownsRow 0 23 1 u5 (j - 1) us := fun w' h => by
              have := (hR.below h).own.top
              rwa [show ((List.range (j - 1)).map fun a => (List.range n).map (del k e a)).length = j - 1 by simp] at this
            have HOW := Lib.hid how
            clear hrd hcT hcD hcells hcei hltk hldk hR hB1 how ti hBww
            by_cases hck : ci = k + 1
            · subst hck
              have hDD : DD = [] := List.length_eq_zero_iff.1 (by rw [HLD.out]; omega)
              have HDD := Lib.hid hDD
              have hq1 : (k : Int) ≤ (k : Int) + 1 := by omega
              have hq2 : k ≤ k + 1 := by omega
              clear hDD
              have HBI := Lib.hid (show ∀ w', Below wr.heap.size wr w' → bi < w'.heap.size from fun w' h => by have := h.size; have := HB1.out.size; have := HBW.out.size; omega)
              have HTL := Lib.hid (show TT.length ≤ 1048576 by have := HLT.out; omega)
              have HM1 := Lib.hid (show k + 0 ≤ maxLen by unfold maxLen; omega)
              have HM2 := Lib.hid (show (k + 0) * 8 ≤ 140737488355328 by omega)
              have HRD' : Hid (TT ++ [] = (List.range n).map (del k e (j - 1))) := Lib.hid (by have := HRD.out; rw [HDD.out] at this; exact this)
              have HM3 := Lib.hid (show j - 1 + 1 ≤ maxLen by unfold maxLen; omega)
              have HM4 := Lib.hid (show (j - 1 + 1) * 24 ≤ 140737488355328 by omega)
              have hk1N : k + 1 ≤ N := by omega
              have hk1N' : (k : Int) + 1 ≤ N := by omega
              have hkN : k ≤ N := by omega
              go_wp2_with fail
              have hwr : IntKind.i64.wrap ((k : Int) + 1) = (k : Int) + 1 := IntWalk.i64_in _ (by omega)
              have hkn : 0 ≤ (k : Int) + 1 := by omega
              have hkt : ((k : Int) + 1).toNat = k + 1 := by omega
              go_region_law (first
                | (go_simp; go_at_call 118; refine (l01Own_at bi oi k (k + 1) TT _ HLT.out (HBI.out _ (by (repeat' (first | (with_reducible exact Below.refl _ _) | (with_reducible assumption) | (with_reducible refine Below.alloc ?_ ?_ _) | (with_reducible refine Below.drew ?_) | (with_reducible refine below_drewN ?_ _) | (with_reducible refine Below.setCell ?_ ?_ _) | (with_reducible refine Below.trans ?_ (Below.mono (by with_reducible assumption) ?_)) | (with_reducible exact Below.size (by with_reducible assumption)) | go_size)))) (HCT.out _ (by (repeat' (first | (with_reducible exact Below.refl _ _) | (with_reducible assumption) | (with_reducible refine Below.alloc ?_ ?_ _) | (with_reducible refine Below.drew ?_) | (with_reducible refine below_drewN ?_ _) | (with_reducible refine Below.setCell ?_ ?_ _) | (with_reducible refine Below.trans ?_ (Below.mono (by with_reducible assumption) ?_)) | (with_reducible exact Below.size (by with_reducible assumption)) | go_size)))) HTL.out).mono ?_; rintro r w2 ⟨u2, rfl, hfu, hb2⟩; have hk2 : Below wr.heap.size wr w2 := (by (repeat' (first | (with_reducible exact Below.refl _ _) | (with_reducible assumption) | (with_reducible refine Below.alloc ?_ ?_ _) | (with_reducible refine Below.drew ?_) | (with_reducible refine below_drewN ?_ _) | (with_reducible refine Below.setCell ?_ ?_ _) | (with_reducible refine Below.trans ?_ (Below.mono (by with_reducible assumption) ?_)) | (with_reducible exact Below.size (by with_reducible assumption)) | go_size))); have hfu' := hfu; obtain ⟨g2, cap2, hu2, hg21, hg22, hgo2⟩ := hfu'; rw [HLT.out] at hu2; subst hu2; clear hg22 hgo2)
                | (refine PS.step_append rfl _ _ 23 rfl wr.heap.size 2 j0 (.int .i64 0) 1 8 Try.underlying23 hj hyy0 hyy1 hyy2 rfl (by decide) (.slice (some ⟨g2, 0, none⟩) k cap2) k _ rfl (hfu.ownsB (Nat.le_refl _) HLT.out.symm) (by simp) _ 0 _ [] rfl rfl (by intro q y hy; simp at hy) (by intro y hy; simp at hy) HM1.out HM2.out hk2.size ?_; intro g3 cap3 w3 hown3 hgrow3 hge3 hlt3; have hk3 : Below wr.heap.size wr w3 := (hk2.grown hgrow3 hk2.size (fun q hq => (by simp [Value.ownBlock] at hq; rw [← hq]; exact hg21))); have hf3 := (freshI_of (ys := []) hown3 (by rw [List.append_nil, HLT.out]; rfl) hge3 hlt3); rw [HRD'.out] at hf3; clear hown3 hgrow3 hge3 hlt3)
                | (refine step_append_lies _ rfl _ _ 22 rfl 0 23 i0 (.slice none 0 0) 1 24 Try.underlying22 hi hzz0 hzz1 hzz2 rfl (by decide) u5 (j - 1) us rfl (HOW.out _ (by (repeat' (first | (with_reducible exact Below.refl _ _) | (with_reducible assumption) | (with_reducible refine Below.alloc ?_ ?_ _) | (with_reducible refine Below.drew ?_) | (with_reducible refine below_drewN ?_ _) | (with_reducible refine Below.setCell ?_ ?_ _) | (with_reducible refine Below.trans ?_ (Below.mono (by with_reducible assumption) ?_)) | (with_reducible exact Below.size (by with_reducible assumption)) | go_size)))) _ 1 _ [.slice (some ⟨g3, 0, none⟩) k cap3] rfl rfl (cell_one_new _ _ _) (by simp [Value.oneCell']) (by decide) HM3.out HM4.out (Nat.zero_le _) _ rfl ?_; intro g4 cap4 w4 hown4 hgrow4 hat4 hlt4; obtain ⟨hF4, hB4⟩ := lap_push HR.out HB1.out hf3 hk3 hown4 hgrow4 hat4 hlt4 hj1; have HF4 := Lib.hid hF4; have HB4 := Lib.hid hB4; clear hown4 hgrow4 hat4 hlt4 hF4 hB4))
              all_goals
                clear hwr hkn hkt
                go_wp2_with fail
                go_roundw
                case rel => exact ⟨j + 1, _, by omega, by omega, by go_num, HF4.out, HB4.out⟩
                case measure => simp [intOf]; omega
            · have hck' : ¬ k + 1 = ci := fun c => hck c.symm
              have HBI := Lib.hid (show ∀ w', Below wr.heap.size wr w' → bi < w'.heap.size from fun w' h => by have := h.size; have := HB1.out.size; have := HBW.out.size; omega)
              have HTL := Lib.hid (show TT.length ≤ 1048576 by have := HLT.out; omega)
              have HM1 := Lib.hid (show k + (N - (k + 1)) ≤ maxLen by unfold maxLen; omega)
              have HM2 := Lib.hid (show (k + (N - (k + 1))) * 8 ≤ 140737488355328 by omega)
              have HM3 := Lib.hid (show j - 1 + 1 ≤ maxLen by unfold maxLen; omega)
              have HM4 := Lib.hid (show (j - 1 + 1) * 24 ≤ 140737488355328 by omega)
              have hk1N : k + 1 ≤ N := by omega
              have hk1N' : (k : Int) + 1 ≤ N := by omega
              have hNci : N ≤ ci := hci
              have hkci : k ≤ ci := by omega
              have hkci1 : k + 1 ≤ ci := by omega
              have hkN : k ≤ N := by omega
              go_wp2_with fail
              have hwr : IntKind.i64.wrap ((k : Int) + 1) = (k : Int) + 1 := IntWalk.i64_in _ (by omega)
              have hkn : 0 ≤ (k : Int) + 1 := by omega
              have hkt : ((k : Int) + 1).toNat = k + 1 := by omega
              go_region_law (first
                | (go_simp; go_at_call 118; refine (l01Own_at bi oi k ci TT _ HLT.out (HBI.out _ (by (repeat' (first | (with_reducible exact Below.refl _ _) | (with_reducible assumption) | (with_reducible refine Below.alloc ?_ ?_ _) | (with_reducible refine Below.drew ?_) | (with_reducible refine below_drewN ?_ _) | (with_reducible refine Below.setCell ?_ ?_ _) | (with_reducible refine Below.trans ?_ (Below.mono (by with_reducible assumption) ?_)) | (with_reducible exact Below.size (by with_reducible assumption)) | go_size)))) (HCT.out _ (by (repeat' (first | (with_reducible exact Below.refl _ _) | (with_reducible assumption) | (with_reducible refine Below.alloc ?_ ?_ _) | (with_reducible refine Below.drew ?_) | (with_reducible refine below_drewN ?_ _) | (with_reducible refine Below.setCell ?_ ?_ _) | (with_reducible refine Below.trans ?_ (Below.mono (by with_reducible assumption) ?_)) | (with_reducible exact Below.size (by with_reducible assumption)) | go_size)))) HTL.out).mono ?_; rintro r w2 ⟨u2, rfl, hfu, hb2⟩; have hk2 : Below wr.heap.size wr w2 := (by (repeat' (first | (with_reducible exact Below.refl _ _) | (with_reducible assumption) | (with_reducible refine Below.alloc ?_ ?_ _) | (with_reducible refine Below.drew ?_) | (with_reducible refine below_drewN ?_ _) | (with_reducible refine Below.setCell ?_ ?_ _) | (with_reducible refine Below.trans ?_ (Below.mono (by with_reducible assumption) ?_)) | (with_reducible exact Below.size (by with_reducible assumption)) | go_size))); have hfu' := hfu; obtain ⟨g2, cap2, hu2, hg21, hg22, hgo2⟩ := hfu'; rw [HLT.out] at hu2; subst hu2; clear hg22 hgo2)
                | (refine PS.step_append rfl _ _ 23 rfl wr.heap.size 2 j0 (.int .i64 0) 1 8 Try.underlying23 hj hyy0 hyy1 hyy2 rfl (by decide) (.slice (some ⟨g2, 0, none⟩) k cap2) k _ rfl (hfu.ownsB (Nat.le_refl _) HLT.out.symm) (by simp) _ (N - (k + 1)) _ (DD.map (Value.int .i64)) rfl (by rw [List.length_map, HLD.out, Nat.mul_one]) (news_at (HCD.out _ (by (repeat' (first | (with_reducible exact Below.refl _ _) | (with_reducible assumption) | (with_reducible refine Below.alloc ?_ ?_ _) | (with_reducible refine Below.drew ?_) | (with_reducible refine below_drewN ?_ _) | (with_reducible refine Below.setCell ?_ ?_ _) | (with_reducible refine Below.trans ?_ (Below.mono (by with_reducible assumption) ?_)) | (with_reducible exact Below.size (by with_reducible assumption)) | go_size))))) (by intro y hy; simp at hy; obtain ⟨z, _, rfl⟩ := hy; rfl) HM1.out HM2.out hk2.size ?_; intro g3 cap3 w3 hown3 hgrow3 hge3 hlt3; have hk3 : Below wr.heap.size wr w3 := (hk2.grown hgrow3 hk2.size (fun q hq => (by simp [Value.ownBlock] at hq; rw [← hq]; exact hg21))); have hf3 := (freshI_of hown3 (by rw [List.length_append, HLT.out, HLD.out]) hge3 hlt3); rw [HRD.out] at hf3; clear hown3 hgrow3 hge3 hlt3)
                | (refine step_append_lies _ rfl _ _ 22 rfl 0 23 i0 (.slice none 0 0) 1 24 Try.underlying22 hi hzz0 hzz1 hzz2 rfl (by decide) u5 (j - 1) us rfl (HOW.out _ (by (repeat' (first | (with_reducible exact Below.refl _ _) | (with_reducible assumption) | (with_reducible refine Below.alloc ?_ ?_ _) | (with_reducible refine Below.drew ?_) | (with_reducible refine below_drewN ?_ _) | (with_reducible refine Below.setCell ?_ ?_ _) | (with_reducible refine Below.trans ?_ (Below.mono (by with_reducible assumption) ?_)) | (with_reducible exact Below.size (by with_reducible assumption)) | go_size)))) _ 1 _ [.slice (some ⟨g3, 0, none⟩) (k + (N - (k + 1))) cap3] rfl rfl (cell_one_new _ _ _) (by simp [Value.oneCell']) (by decide) HM3.out HM4.out (Nat.zero_le _) _ rfl ?_; intro g4 cap4 w4 hown4 hgrow4 hat4 hlt4; obtain ⟨hF4, hB4⟩ := lap_push HR.out HB1.out hf3 hk3 hown4 hgrow4 hat4 hlt4 hj1; have HF4 := Lib.hid hF4; have HB4 := Lib.hid hB4; clear hown4 hgrow4 hat4 hlt4 hF4 hB4))
              all_goals
                clear hwr hkn hkt
                go_wp2_with fail
                go_roundw
                case rel => exact ⟨j + 1, _, by omega, by omega, by go_num, HF4.out, HB4.out⟩
                case measure => simp [intOf]; omega
          · obtain rfl : j = N := by omega
            have hNn : j - 1 = n := by omega
            rw [hNn] at hR
            have hR' : FreshR W1.heap.size wr u5 (tab n (del k e)) us := hR
            have hbd2 : ∀ i i', Bd 100 (del k e i i') := fun i i' => HB.out _ _
            have hrows : PM.Rows wr u5 (tab n (del k e)) := hR'.own.rows' (fun i hi y hy => by
              rw [tab_length] at hi
              rw [tab_row _ _ _ hi] at hy
              obtain ⟨q, hq, rfl⟩ := List.mem_map.1 hy
              have := hbd2 i q
              unfold Bd at this
              unfold I64
              omega)
            obtain ⟨gv, cv, hv, _, _⟩ := hR'.top
            rw [tab_length] at hv
            have hzr := hB1.size
            have hBww := HBW.out.trans (hB1.mono hzw)
            have t0r := (hB1.cell (p := ⟨b, off, none⟩) (by show b < W1.heap.size; omega)).trans HT0.out
            have e0r := (hB1.cell (p := ⟨b0, o0 + k, none⟩) (by show b0 < W1.heap.size; omega)).trans HE0.out
            have hbw' := hBww.size
            have r0 : ∀ w', Below wr.heap.size wr w' → w'.cell? ⟨b, off, none⟩ = some (.slice (some ⟨b0, o0, none⟩) j c0) := fun w' h => (h.cell (p := ⟨b, off, none⟩) (by show b < _; omega)).trans t0r
            have r1 : ∀ w', Below wr.heap.size wr w' → w'.cell? ⟨b0, o0 + k, none⟩ = some (.int .i64 x) := fun w' h => (h.cell (p := ⟨b0, o0 + k, none⟩) (by show b0 < _; omega)).trans e0r
            have hdd := HDB.out k
            have hxd : Bd 120000000000000 (x * dt n (del k e)) := ((show Bd 100 x from ⟨hbxa, hbxb⟩).mul hdd).mono (by decide)
            unfold Bd at hdd hxd
            obtain ⟨hxd1, hxd2⟩ := hxd
            obtain ⟨hdd1, hdd2⟩ := hdd
            have hih := fun (w' : World) (h : Below wr.heap.size wr w') => IH.out u5 w' (del k e) (hrows.below h) hbd2
            subst hv
            have HIH := Lib.hid hih
            have HWW := Lib.hid hBww
            clear hih hR hR' hrows hbd2 hB1 hBww hNn
            generalize dt n (del k e) = D at *
            by_cases hpar : k % 2 = 1
            · have hpb : ((k : Int) % 2 == 1) = true := by rw [beq_iff_eq]; omega
              have hfin : sumTo (lapF n e) (k + 1) = sumTo (lapF n e) k + -(x * D) := by rw [HSUM.out, HFK.out]; unfold sgn; rw [if_pos hpar]; simp
              have HFIN := Lib.hid hfin
              clear hfin hsb1a hsb1b
              generalize sumTo (lapF n e) k = S at *
              go_wp2_with fail
              go_region_held3 (fun w' => Below wr.heap.size wr w') ((repeat' (first | (with_reducible exact Below.refl _ _) | (with_reducible assumption) | (with_reducible refine Below.alloc ?_ ?_ _) | (with_reducible refine Below.drew ?_) | (with_reducible refine below_drewN ?_ _) | (with_reducible refine Below.setCell ?_ ?_ _) | (with_reducible refine Below.trans ?_ (Below.mono (by with_reducible assumption) ?_)) | (with_reducible exact Below.size (by with_reducible assumption)) | go_size)))
                ((go_at_call 138; refine (HIH.out _ (by first | assumption | ((repeat' (first | (with_reducible exact Below.refl _ _) | (with_reducible assumption) | (with_reducible refine Below.alloc ?_ ?_ _) | (with_reducible refine Below.drew ?_) | (with_reducible refine below_drewN ?_ _) | (with_reducible refine Below.setCell ?_ ?_ _) | (with_reducible refine Below.trans ?_ (Below.mono (by with_reducible assumption) ?_)) | (with_reducible exact Below.size (by with_reducible assumption)) | go_size))))).mono ?_; rintro r w5 ⟨rfl, hb5⟩; have hS5 : Below wr.heap.size wr w5 := (by (repeat' (first | (with_reducible exact Below.refl _ _) | (with_reducible assumption) | (with_reducible refine Below.alloc ?_ ?_ _) | (with_reducible refine Below.drew ?_) | (with_reducible refine below_drewN ?_ _) | (with_reducible refine Below.setCell ?_ ?_ _) | (with_reducible refine Below.trans ?_ (Below.mono (by with_reducible assumption) ?_)) | (with_reducible exact Below.size (by with_reducible assumption)) | go_size)))))
              go_wp2_with fail
              go_roundw
              case rel => exact ⟨k + 1, by omega, by go_num, by rw [HFIN.out], HWW.out.trans (Below.mono (by (repeat' (first | (with_reducible exact Below.refl _ _) | (with_reducible assumption) | (with_reducible refine Below.alloc ?_ ?_ _) | (with_reducible refine Below.drew ?_) | (with_reducible refine below_drewN ?_ _) | (with_reducible refine Below.setCell ?_ ?_ _) | (with_reducible refine Below.trans ?_ (Below.mono (by with_reducible assumption) ?_)) | (with_reducible exact Below.size (by with_reducible assumption)) | go_size))) HWW.out.size)⟩
              case measure => simp [intOf]; omega
            · have hpb : ((k : Int) % 2 == 1) = false := by rw [beq_eq_false_iff_ne]; omega
              have hfin : sumTo (lapF n e) (k + 1) = sumTo (lapF n e) k + x * D := by rw [HSUM.out, HFK.out]; unfold sgn; rw [if_neg hpar]; simp
              have HFIN := Lib.hid hfin
              clear hfin hsb1a hsb1b
              generalize sumTo (lapF n e) k = S at *
              go_wp2_with fail
              go_region_held3 (fun w' => Below wr.heap.size wr w') ((repeat' (first | (with_reducible exact Below.refl _ _) | (with_reducible assumption) | (with_reducible refine Below.alloc ?_ ?_ _) | (with_reducible refine Below.drew ?_) | (with_reducible refine below_drewN ?_ _) | (with_reducible refine Below.setCell ?_ ?_ _) | (with_reducible refine Below.trans ?_ (Below.mono (by with_reducible assumption) ?_)) | (with_reducible exact Below.size (by with_reducible assumption)) | go_size)))
                ((go_at_call 138; refine (HIH.out _ (by first | assumption | ((repeat' (first | (with_reducible exact Below.refl _ _) | (with_reducible assumption) | (with_reducible refine Below.alloc ?_ ?_ _) | (with_reducible refine Below.drew ?_) | (with_reducible refine below_drewN ?_ _) | (with_reducible refine Below.setCell ?_ ?_ _) | (with_reducible refine Below.trans ?_ (Below.mono (by with_reducible assumption) ?_)) | (with_reducible exact Below.size (by with_reducible assumption)) | go_size))))).mono ?_; rintro r w5 ⟨rfl, hb5⟩; have hS5 : Below wr.heap.size wr w5 := (by (repeat' (first | (with_reducible exact Below.refl _ _) | (with_reducible assumption) | (with_reducible refine Below.alloc ?_ ?_ _) | (with_reducible refine Below.drew ?_) | (with_reducible refine below_drewN ?_ _) | (with_reducible refine Below.setCell ?_ ?_ _) | (with_reducible refine Below.trans ?_ (Below.mono (by with_reducible assumption) ?_)) | (with_reducible exact Below.size (by with_reducible assumption)) | go_size)))))
              go_wp2_with fail
              go_roundw
              case rel => exact ⟨k + 1, by omega, by go_num, by rw [HFIN.out], HWW.out.trans (Below.mono (by (repeat' (first | (with_reducible exact Below.refl _ _) | (with_reducible assumption) | (with_reducible refine Below.alloc ?_ ?_ _) | (with_reducible refine Below.drew ?_) | (with_reducible refine below_drewN ?_ _) | (with_reducible refine Below.setCell ?_ ?_ _) | (with_reducible refine Below.trans ?_ (Below.mono (by with_reducible assumption) ?_)) | (with_reducible exact Below.size (by with_reducible assumption)) | go_size))) HWW.out.size)⟩
              case measure => simp [intOf]; omega
    · obtain rfl : k = N := by omega
      go_wp2_with fail
      go_ret
      exact ⟨rfl, hBw⟩
end Go.Proofs.Ytoglmkjmnknbbaa.PW
