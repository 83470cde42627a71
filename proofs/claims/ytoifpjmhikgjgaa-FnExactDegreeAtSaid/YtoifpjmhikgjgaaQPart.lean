/-
  Walks: the numbers of a matrix in the rows of one set and the columns of another one, in the program: a range over an iterator inside another one.
-/
import Derived.Test.YtoifpjmhikgjgaaPRoundB
import Derived.Test.YtoifpjmhikgjgaaQMat
import Derived.Test.YtoifpjmhikgjgaaQOwn
namespace Go.Proofs.Ytoifpjmhikgjgaa.PW
open Go.RowKit Go.Shelf Go.Proofs.Ytoifpjmhikgjgaa
open Go.Proofs.Ytoifpjmhikgjgaa.PM
attribute [local go_sem] Oper.semAt_some

theorem KC.ownRs {W W' : World} (h : KC W W') {B : Nat} {v : Value} {xss : List (List Int)} {us : List Value} (hf : OwnRs B W v xss us) : OwnRs B W' v xss us := by
  obtain ⟨⟨h1, h2, h3, h4, h5⟩, hm, hu⟩ := hf
  exact ⟨⟨h1, h.own h2, fun i hi => h.own (h3 i hi), h4, h5⟩, fun b hb => ⟨(hm b hb).1, Nat.lt_of_lt_of_le (hm b hb).2 h.size⟩, fun i b hi hb => ⟨(hu i b hi hb).1, Nat.lt_of_lt_of_le (hu i b hi hb).2 h.size⟩⟩
theorem boxed_app {W w1 : World} {n₀ nb B : Nat} {t e : TypeId} {v v' : Value} {k m : Nat} {xs ys : List Value} {tmp : Obj} (hv : Boxed W B t v) (hte : t ≠ e) (hrow : W.ownsRow nb e 1 v k xs) (hnb : nb ≤ W.heap.size) (h0 : n₀ ≤ B) (hn0 : n₀ ≤ nb)
    (hown' : w1.ownsRow nb e 1 v' m ys) (hgrow : (W.alloc tmp).grownBy w1 v.ownBlock) :
    Boxed w1 B t v ∧ Boxed (w1.setCell ⟨B, 0, none⟩ v') B t v' ∧ (w1.setCell ⟨B, 0, none⟩ v').ownsRow nb e 1 v' m ys ∧ KeepsOthers W (w1.setCell ⟨B, 0, none⟩ v') ∧ Below n₀ W (w1.setCell ⟨B, 0, none⟩ v') ∧
      ∀ q, q < nb → q ≠ B → (w1.setCell ⟨B, 0, none⟩ v').heap[q]? = W.heap[q]? := by
  have a := Boxed.appended (n₀ := 0) hv hte (own_base' hrow) (Nat.zero_le _) (Nat.zero_le _) (own_base' hown') hgrow
  have hge : ∀ j, v.ownBlock = some j → nb ≤ j := fun j hj => by
    rcases hrow.2 with ⟨hv2, _⟩ | ⟨g, cap, cur, hv2, hg1, _, _⟩
    · rw [hv2] at hj; simp [Value.ownBlock] at hj
    · rw [hv2] at hj; simp [Value.ownBlock] at hj; omega
  refine ⟨a.1, a.2.1, hown'.kept (grownBy_setCell' w1 B v') (.inr (a.1.not_row hte hown').symm), a.2.2.2.1, ?_, fun q hq hqB => ?_⟩
  · exact (((Below.refl n₀ W).alloc (by omega) tmp).grown hgrow (by simp; omega) (fun j hj => by have := hge j hj; omega)).setCell (p := ⟨B, 0, none⟩) h0 v'
  · refine (Below.heap_setCell w1 ⟨B, 0, none⟩ v' q hqB).trans ?_
    refine (hgrow.block q (by simp; omega) (fun c => by have := hge q c.symm; omega)).trans (Below.heap_alloc W tmp q (by omega))

theorem rowsM_at {w : World} {b off c : Nat} {M : List (List Int)} (h : PM.Rows w (.slice (some ⟨b, off, none⟩) M.length c) M) (hrl : ∀ j, j < M.length → (M.getD j []).length = M.length) {i k : Nat} (hi : i < M.length) (hk : k < M.length) :
    ∃ bk ok ck, w.cell? ⟨b, off + i, none⟩ = some (.slice (some ⟨bk, ok, none⟩) M.length ck) ∧ w.cell? ⟨bk, ok + k, none⟩ = some (.int .i64 (ent M i k)) := by
  obtain ⟨a1, cap, hv, _, _, hx⟩ := h
  simp only [Value.slice.injEq] at hv
  obtain ⟨rfl, _, rfl⟩ := hv
  rcases hx with hx | ⟨b', off', hv, _, hcell⟩
  · rw [hx] at hi; simp at hi
  simp only [Option.some.injEq, Addr.mk.injEq, and_true] at hv
  obtain ⟨rfl, rfl⟩ := hv
  obtain ⟨u, hu, hI⟩ := hcell i hi
  obtain ⟨ak, ck, rfl, _, _, _, hxk⟩ := hI
  have hrk := hrl i hi
  rcases hxk with hx | ⟨bk, ok, rfl, _, hck⟩
  · rw [hx] at hrk; simp at hrk; omega
  rw [hrk] at hu
  exact ⟨bk, ok, ck, hu, hck k (by omega)⟩

/-- The numbers of a row in the columns of a set; the rows of those that have come. -/
def rowL (M : List (List Int)) (cs : Int) (i : Nat) : List Int := (memTo M.length cs M.length).map fun k => ent M i k.val
def partTo (M : List (List Int)) (cs : Int) (pre : List (Fin M.length)) : List (List Int) := pre.map fun i => rowL M cs i.val
def partL (M : List (List Int)) (rs cs : Int) : List (List Int) := partTo M cs (memTo M.length rs M.length)

theorem membersOf_n (n : Nat) (s : Int) (w : World) :
    CallsIn Fence.wide n Try.prog 66 #[.int .i64 s] w fun e w' => e = .returned (.func (.func 102) #[] #[.pointer (some ⟨w.heap.size, 0, none⟩)]) ∧ w' = w.alloc (.cells #[.int .i64 s] 2) :=
  callsIn_wide.2 (callsIn_wide.1 (membersOf_in s w))
theorem memTo_len (n : Nat) (s : Int) : (memTo n s n).length ≤ n := memTo_length n s n

set_option maxRecDepth 100000 in
set_option maxHeartbeats 4000000 in
theorem partOf_ok (b off cM : Nat) (M : List (List Int)) (rs cs : Int) (w : World) (h1 : PM.Rows w (.slice (some ⟨b, off, none⟩) M.length cM) M) (hn5 : M.length ≤ 5) (hrl : ∀ j, j < M.length → (M.getD j []).length = M.length)
    (hr0 : 0 ≤ rs) (hr1 : rs < 2 ^ M.length) (hc0 : 0 ≤ cs) (hc1 : cs < 2 ^ M.length) :
    CallsIn Fence.wide 8 Try.prog 94 #[.slice (some ⟨b, off, none⟩) M.length cM, .int .i64 rs, .int .i64 cs] w fun e w' => ∃ v us, e = .returned v ∧ OwnRs w.heap.size w' v (partL M rs cs) us ∧ Below w.heap.size w w' := by
  have hmx : Try.prog.follows .mixedOrders = true := by kernel_rfl
  have HR := Lib.hid h1
  have HRL := Lib.hid hrl
  have HR1 := Lib.hid hr1
  have HC1 := Lib.hid hc1
  obtain ⟨i0, hi, hzz0, hzz1, hzz2⟩ := info_parts info_ints
  obtain ⟨j0, hj, hyy0, hyy1, hyy2⟩ := info_parts info_int
  clear h1 hrl hr1 hc1
  refine callsIn_of_wp_marks Try.func94 rfl trivial ?_ rfl
  simp only [Try.ntmps94, List.size_toArray, List.length_cons, List.length_nil, Nat.reduceAdd, Nat.reduceSub, Array.replicate_succ, Array.replicate_zero, List.push_toArray, List.append_toArray, List.nil_append, List.cons_append]
  gi_wp2_with (refine ⟨trivial, ?_⟩; gi_at_call 66; refine (membersOf_n _ _ _).mono ?_; rintro e w' ⟨rfl, rfl⟩)
  obtain ⟨W0, hW0⟩ : ∃ W0, ((((w.alloc (.cells #[.slice (some ⟨b, off, none⟩) M.length cM] 22)).alloc (.cells #[.int .i64 cs] 2)).alloc (.cells #[.slice none 0 0] 22)).alloc (.cells #[.int .i64 rs] 2)) = W0 := ⟨_, rfl⟩
  have bM : Boxed W0 w.heap.size 22 (.slice (some ⟨b, off, none⟩) M.length cM) := by rw [← hW0]; exact (((Boxed.new w _ _).alloc _).alloc _).alloc _
  have bC : Boxed W0 (w.heap.size + 1) 2 (.int .i64 cs) := by
    have := ((Boxed.new (w.alloc (.cells #[.slice (some ⟨b, off, none⟩) M.length cM] 22)) 2 (.int .i64 cs)).alloc (.cells #[.slice none 0 0] 22)).alloc (.cells #[.int .i64 rs] 2)
    rw [hW0] at this
    simpa using this
  have bP : Boxed W0 (w.heap.size + 1 + 1) 22 (.slice none 0 0) := by
    have := (Boxed.new ((w.alloc (.cells #[.slice (some ⟨b, off, none⟩) M.length cM] 22)).alloc (.cells #[.int .i64 cs] 2)) 22 (.slice none 0 0)).alloc (.cells #[.int .i64 rs] 2)
    rw [hW0] at this
    simpa using this
  have bS : W0.cell? ⟨w.heap.size + 1 + 1 + 1, 0, none⟩ = some (.int .i64 rs) := by
    have := (Boxed.new (((w.alloc (.cells #[.slice (some ⟨b, off, none⟩) M.length cM] 22)).alloc (.cells #[.int .i64 cs] 2)).alloc (.cells #[.slice none 0 0] 22)) 2 (.int .i64 rs)).cell
    rw [hW0] at this
    simpa using this
  have hB0 : Below w.heap.size w W0 := by rw [← hW0]; (repeat' (first | (with_reducible exact Below.refl _ _) | (with_reducible assumption) | (with_reducible refine Below.alloc ?_ ?_ _) | (with_reducible refine Below.drew ?_) | (with_reducible refine below_drewN ?_ _) | (with_reducible refine Below.setCell ?_ ?_ _) | (with_reducible refine Below.trans ?_ (Below.mono (by with_reducible assumption) ?_)) | (with_reducible exact Below.size (by with_reducible assumption)) | go_size))
  have hsz : W0.heap.size = w.heap.size + 4 := by rw [← hW0]; simp
  rw [hW0]
  clear hW0
  refine wpIn_rangeFunc_ownH (α := Fin M.length) rfl (by omega) (gf := 102) (lb := #[.pointer (some ⟨w.heap.size + 1 + 1 + 1, 0, none⟩)]) rfl trivial (enters_of Try.func102 (by kernel_rfl) rfl)
    (members_stops M.length hn5 rs hr0 HR1.out (w.heap.size + 1 + 1 + 1) W0 (by omega) bS) (fun h k => KB.trans h k) (KB.put (by omega)) (Below.refl _ _) (fun _ => rfl)
    (fun (pre : List (Fin M.length)) W => (∃ v us, Boxed W (w.heap.size + 1 + 1) 22 v ∧ OwnRs (w.heap.size + 4) W v (partTo M cs pre) us) ∧ (Boxed W w.heap.size 22 (.slice (some ⟨b, off, none⟩) M.length cM) ∧ Boxed W (w.heap.size + 1) 2 (.int .i64 cs)) ∧ Below w.heap.size w W ∧ w.heap.size + 4 ≤ W.heap.size)
    (fun _ _ _ => False)
    (fun s X Y row hs hg hr => by
      obtain ⟨⟨v, us, g1, g2⟩, ⟨g3, g4⟩, g5, g6⟩ := hs
      have hk := KC.of hg (fun r e => (hr r e).2)
      exact ⟨⟨v, us, hk.same _ _ _ _ g1, hk.ownRs g2⟩, ⟨hk.same _ _ _ _ g3, hk.same _ _ _ _ g4⟩, ownFrom_below (β := Unit) (Nat.le_refl _) (by omega) () X Y row g5 hg hr, Nat.le_trans g6 hk.size⟩)
    (fun _ _ _ _ _ h _ _ => h)
    ⟨⟨_, [], bP, ownRs_nil _ _⟩, ⟨bM, bC⟩, hB0, by omega⟩
    (fun x a' W => ∃ Bx, w.heap.size + 4 ≤ Bx ∧ Boxed W Bx 3 (.int .i64 (x.val : Int)) ∧ a' = { tmps := #[.slice (some ⟨b, off, none⟩) M.length cM, .int .i64 rs, .int .i64 cs, .pointer (some ⟨w.heap.size, 0, none⟩), undef, .pointer (some ⟨w.heap.size + 1, 0, none⟩), .slice none 0 0, .pointer (some ⟨w.heap.size + 1 + 1, 0, none⟩), .pointer (some ⟨Bx, 0, none⟩), undef, undef, .int .i64 rs, .func (.func 102) #[] #[.pointer (some ⟨w.heap.size + 1 + 1 + 1, 0, none⟩)], .int .i64 ((x : Fin M.length).val : Int), undef, undef, undef, undef, undef, undef, undef, undef, undef, undef, undef, undef, undef, undef, undef, undef, undef, undef], defers := [] })
    (fun x a' _ X Y row hs hg hr => by obtain ⟨Bx, q1, q2, q3⟩ := hs; exact ⟨Bx, q1, (KC.of hg (fun r e => (hr r e).2)).same _ _ _ _ q2, q3⟩)
    ?assign ?body ?done ?stop
  case assign =>
    rintro l pre x W K ⟨⟨v, us, g1, g2⟩, ⟨g3, g4⟩, g5, g6⟩ hK
    gi_wp2
    refine hK _ _ ((KeepsOthers.alloc _ _).from _) (Below.heap_alloc _ _ _ (by omega)) ⟨⟨v, us, g1.alloc _, g2.keep (by simp) (fun q _ hq => Below.heap_alloc _ _ _ hq)⟩, ⟨g3.alloc _, g4.alloc _⟩, g5.alloc g5.size _, by simp; omega⟩ ⟨W.heap.size, g6, Boxed.new W _ _, rfl⟩
  case body =>
    rintro l pre x a' W hl ⟨r, hr⟩ ⟨⟨v, us, g1, g2⟩, ⟨g3, g4⟩, g5, g6⟩ ⟨Bx, hBx, bX, rfl⟩ hlt
    have cC : ∀ o, (W.alloc o).cell? ⟨w.heap.size + 1, 0, none⟩ = some (.int .i64 cs) := fun o => (g4.alloc o).cell
    have hBxz := bX.lt
    gi_wp2_with (refine ⟨trivial, ?_⟩; gi_at_call 66; refine (CallsIn.inRound l (membersOf_n _ _ _)).mono ?_; rintro e w' ⟨rfl, rfl⟩)
    obtain ⟨W1, hW1⟩ : ∃ W1, (W.alloc (.cells #[.slice none 0 0] 23)).alloc (.cells #[.int .i64 cs] 2) = W1 := ⟨_, rfl⟩
    have bR : Boxed W1 W.heap.size 23 (.slice none 0 0) := by rw [← hW1]; exact (Boxed.new W _ _).alloc _
    have bS2 : W1.cell? ⟨W.heap.size + 1, 0, none⟩ = some (.int .i64 cs) := by
      have := (Boxed.new (W.alloc (.cells #[.slice none 0 0] 23)) 2 (.int .i64 cs)).cell
      rw [hW1] at this
      simpa using this
    have hz1 : W1.heap.size = W.heap.size + 2 := by rw [← hW1]; simp
    have hBW1 : Below W.heap.size W W1 := by rw [← hW1]; (repeat' (first | (with_reducible exact Below.refl _ _) | (with_reducible assumption) | (with_reducible refine Below.alloc ?_ ?_ _) | (with_reducible refine Below.drew ?_) | (with_reducible refine below_drewN ?_ _) | (with_reducible refine Below.setCell ?_ ?_ _) | (with_reducible refine Below.trans ?_ (Below.mono (by with_reducible assumption) ?_)) | (with_reducible exact Below.size (by with_reducible assumption)) | go_size))
    have hKF1 : KeepsFrom W0.heap.size W W1 := by rw [← hW1]; exact ((KeepsOthers.alloc _ _).trans (KeepsOthers.alloc _ _)).from _
    have hr1 : W1.heap[l]? = some (.loop r) := (hBW1.block l (Array.getElem?_eq_some_iff.1 hr).1).trans hr
    rw [hW1]
    clear hW1
    refine wpIn_rangeFunc_ownN (α := Fin M.length) (l₀ := l) (r₀ := r) rfl hr1 (by omega) (gf := 102) (lb := #[.pointer (some ⟨W.heap.size + 1, 0, none⟩)]) rfl trivial (enters_of Try.func102 (by kernel_rfl) rfl)
      ((PR.seqStops_wide (members_stops M.length hn5 cs hc0 HC1.out (W.heap.size + 1) W1 (by omega) bS2)).inRound l) (fun h k => KB.trans h k) (KB.put (by omega)) (Below.refl _ _) (fun _ => rfl)
      (fun (pre' : List (Fin M.length)) W' => (∃ vr, Boxed W' W.heap.size 23 vr ∧ W'.ownsRow (W.heap.size + 2) 2 1 vr pre'.length ((pre'.map fun k => ent M x.val k.val).map (Value.int .i64)) ∧ True) ∧ (Below W.heap.size W W' ∧ KeepsFrom W0.heap.size W W') ∧ W.heap.size + 2 ≤ W'.heap.size)
      (fun _ _ _ => False)
      (fun s X Y row hs hg hr => by
        obtain ⟨⟨vr, q1, q2, q3⟩, ⟨q4, q5⟩, q6⟩ := hs
        have hk := KC.of hg (fun r e => (hr r e).2)
        exact ⟨⟨vr, hk.same _ _ _ _ q1, hk.own q2, q3⟩, ⟨ownFrom_below (β := Unit) (Nat.le_refl _) (by omega) () X Y row q4 hg hr, ownFrom_keepsFrom (β := Unit) (by omega) () X Y row q5 hg hr⟩, Nat.le_trans q6 hk.size⟩)
      (fun _ _ _ _ _ h _ _ => h)
      ⟨⟨_, bR, World.ownsRow_nil _ _ _ _, trivial⟩, ⟨hBW1, hKF1⟩, by omega⟩
      (fun y a'' _ => a'' = { tmps := #[.slice (some ⟨b, off, none⟩) M.length cM, .int .i64 rs, .int .i64 cs, .pointer (some ⟨w.heap.size, 0, none⟩), undef, .pointer (some ⟨w.heap.size + 1, 0, none⟩), .slice none 0 0, .pointer (some ⟨w.heap.size + 1 + 1, 0, none⟩), .pointer (some ⟨Bx, 0, none⟩), .pointer (some ⟨W.heap.size, 0, none⟩), .int .i64 ((y : Fin M.length).val : Int), .int .i64 rs, .func (.func 102) #[] #[.pointer (some ⟨w.heap.size + 1 + 1 + 1, 0, none⟩)], .int .i64 ((x : Fin M.length).val : Int), .int .i64 cs, .func (.func 102) #[] #[.pointer (some ⟨W.heap.size + 1, 0, none⟩)], .int .i64 ((y : Fin M.length).val : Int), undef, undef, undef, undef, undef, undef, undef, undef, undef, undef, undef, undef, undef, undef, undef], defers := [] })
      (fun _ _ _ _ _ _ hs _ _ => hs)
      ?assign2 ?body2 ?done2 ?stop2
    case assign2 =>
      rintro l2 pre' y W' K hi hK
      gi_wp2
      exact hK _ _ (KeepsFrom.refl _ _) (KB.refl _ _) hi rfl
    case body2 =>
      rintro l2 pre' y a'' W' _ _ ⟨⟨vr, q1, q2, _⟩, ⟨q4, q5⟩, q6⟩ rfl hlt2
      have hbw : Below w.heap.size w W' := g5.trans (q4.mono g5.size)
      obtain ⟨bk, ok, ck, d1, d2⟩ := rowsM_at (HR.out.below hbw) HRL.out x.isLt y.isLt
      have c3 := (q4.cell (p := ⟨w.heap.size, 0, none⟩) g3.lt).trans g3.cell
      have c8 := (q4.cell (p := ⟨Bx, 0, none⟩) hBxz).trans bX.cell
      have c9 := q1.cell
      have q1D : Boxed W'.drew W.heap.size 23 vr := q1
      have q2D : W'.drew.ownsRow (W.heap.size + 2) 2 1 vr pre'.length ((pre'.map fun k => ent M x.val k.val).map (Value.int .i64)) := q2
      have c9a := fun o => (q1.alloc o).cell
      obtain ⟨z, hz⟩ : ∃ z, z = ent M x.val y.val := ⟨_, rfl⟩
      rw [← hz] at d2
      have hx0 : (0 : Int) ≤ ((x.val : Nat) : Int) := by omega
      have hx1 : ((x.val : Nat) : Int) < (M.length : Int) := by have := x.isLt; omega
      have hy0 : (0 : Int) ≤ ((y.val : Nat) : Int) := by omega
      have hy1 : ((y.val : Nat) : Int) < (M.length : Int) := by have := y.isLt; omega
      have HZ := Lib.hid hz
      have Q4 := Lib.hid q4
      have Q5 := Lib.hid q5
      have Q1D := Lib.hid q1D
      have Q2D := Lib.hid q2D
      clear hz q4 q5 q1 q2 q1D q2D hbw bX g1 g2 g3 g4 g5 hKF1 hBW1 bR bS2 bM bC bP bS hB0 hr1 hr cC
      gi_wp2
      refine PR.wpIn_region_inv hmx (by kernel_rfl) (fun listed a w' =>
        (∃ b0 b1 b2 b3 b4 b5 b6 b7 b8 : Bool, ((b3 = true → b1 = true ∧ b2 = true) ∧ (b4 = true → b3 = true) ∧ (b6 = true → b4 = true ∧ b5 = true) ∧ (b7 = true → b6 = true) ∧ (b8 = true → b7 = true)) ∧ listed = #[b0, b1, b2, b3, b4, b5, b6, b7, b8, false, false] ∧
          a = { tmps := #[.slice (some ⟨b, off, none⟩) M.length cM, .int .i64 rs, .int .i64 cs, .pointer (some ⟨w.heap.size, 0, none⟩), undef, .pointer (some ⟨w.heap.size + 1, 0, none⟩), .slice none 0 0, .pointer (some ⟨w.heap.size + 1 + 1, 0, none⟩), .pointer (some ⟨Bx, 0, none⟩), .pointer (some ⟨W.heap.size, 0, none⟩), .int .i64 ((y : Fin M.length).val : Int), .int .i64 rs, .func (.func 102) #[] #[.pointer (some ⟨w.heap.size + 1 + 1 + 1, 0, none⟩)], .int .i64 ((x : Fin M.length).val : Int), .int .i64 cs, .func (.func 102) #[] #[.pointer (some ⟨W.heap.size + 1, 0, none⟩)], .int .i64 ((y : Fin M.length).val : Int), (cond b0 (vr) undef), (cond b1 (.slice (some ⟨b, off, none⟩) M.length cM) undef), (cond b2 (.int .i64 ((x : Fin M.length).val : Int)) undef), (cond b3 (.pointer (some ⟨b, off + x.val, none⟩)) undef), (cond b4 (.slice (some ⟨bk, ok, none⟩) M.length ck) undef), (cond b5 (.int .i64 ((y : Fin M.length).val : Int)) undef), (cond b6 (.pointer (some ⟨bk, ok + y.val, none⟩)) undef), (cond b7 (.int .i64 z) undef), (cond b8 (.slice (some ⟨W'.heap.size, 0, none⟩) 1 1) undef), undef, undef, undef, undef, undef, undef], defers := [] } ∧ w' = cond b8 (W'.drew.alloc (.cells #[.int .i64 z] 2)) W'.drew) ∨
        (listed = #[true, true, true, true, true, true, true, true, true, true, false] ∧ ∃ v' w1, a = { tmps := #[.slice (some ⟨b, off, none⟩) M.length cM, .int .i64 rs, .int .i64 cs, .pointer (some ⟨w.heap.size, 0, none⟩), undef, .pointer (some ⟨w.heap.size + 1, 0, none⟩), .slice none 0 0, .pointer (some ⟨w.heap.size + 1 + 1, 0, none⟩), .pointer (some ⟨Bx, 0, none⟩), .pointer (some ⟨W.heap.size, 0, none⟩), .int .i64 ((y : Fin M.length).val : Int), .int .i64 rs, .func (.func 102) #[] #[.pointer (some ⟨w.heap.size + 1 + 1 + 1, 0, none⟩)], .int .i64 ((x : Fin M.length).val : Int), .int .i64 cs, .func (.func 102) #[] #[.pointer (some ⟨W.heap.size + 1, 0, none⟩)], .int .i64 ((y : Fin M.length).val : Int), vr, .slice (some ⟨b, off, none⟩) M.length cM, .int .i64 ((x : Fin M.length).val : Int), .pointer (some ⟨b, off + x.val, none⟩), .slice (some ⟨bk, ok, none⟩) M.length ck, .int .i64 ((y : Fin M.length).val : Int), .pointer (some ⟨bk, ok + y.val, none⟩), .int .i64 z, .slice (some ⟨W'.heap.size, 0, none⟩) 1 1, v', undef, undef, undef, undef, undef], defers := [] } ∧ w' = w1 ∧
          w1.ownsRow (W.heap.size + 2) 2 1 v' (pre'.length + 1) ((pre'.map fun k => ent M x.val k.val).map (Value.int .i64) ++ [.int .i64 z]) ∧ (W'.drew.alloc (.cells #[.int .i64 z] 2)).grownBy w1 vr.ownBlock) ∨
        (listed = #[true, true, true, true, true, true, true, true, true, true, true] ∧ ∃ v' w1, a = { tmps := #[.slice (some ⟨b, off, none⟩) M.length cM, .int .i64 rs, .int .i64 cs, .pointer (some ⟨w.heap.size, 0, none⟩), undef, .pointer (some ⟨w.heap.size + 1, 0, none⟩), .slice none 0 0, .pointer (some ⟨w.heap.size + 1 + 1, 0, none⟩), .pointer (some ⟨Bx, 0, none⟩), .pointer (some ⟨W.heap.size, 0, none⟩), .int .i64 ((y : Fin M.length).val : Int), .int .i64 rs, .func (.func 102) #[] #[.pointer (some ⟨w.heap.size + 1 + 1 + 1, 0, none⟩)], .int .i64 ((x : Fin M.length).val : Int), .int .i64 cs, .func (.func 102) #[] #[.pointer (some ⟨W.heap.size + 1, 0, none⟩)], .int .i64 ((y : Fin M.length).val : Int), vr, .slice (some ⟨b, off, none⟩) M.length cM, .int .i64 ((x : Fin M.length).val : Int), .pointer (some ⟨b, off + x.val, none⟩), .slice (some ⟨bk, ok, none⟩) M.length ck, .int .i64 ((y : Fin M.length).val : Int), .pointer (some ⟨bk, ok + y.val, none⟩), .int .i64 z, .slice (some ⟨W'.heap.size, 0, none⟩) 1 1, v', undef, undef, undef, undef, undef], defers := [] } ∧ w' = w1.setCell ⟨W.heap.size, 0, none⟩ v' ∧
          w1.ownsRow (W.heap.size + 2) 2 1 v' (pre'.length + 1) ((pre'.map fun k => ent M x.val k.val).map (Value.int .i64) ++ [.int .i64 z]) ∧ (W'.drew.alloc (.cells #[.int .i64 z] 2)).grownBy w1 vr.ownBlock)) ?_ ?_ ?_ ?_
      · rintro listed a w' (⟨b0, b1, b2, b3, b4, b5, b6, b7, b8, _, rfl, _⟩ | ⟨rfl, _⟩ | ⟨rfl, _⟩) <;> rfl
      · rintro listed a w' (⟨b0, b1, b2, b3, b4, b5, b6, b7, b8, _, rfl, _⟩ | ⟨rfl, _⟩ | ⟨rfl, v', w1, rfl, rfl, r1, r2⟩) hall
        · have := hall 10 (by simp); simp at this
        · have := hall 10 (by simp); simp at this
        · obtain ⟨a1, a2, a3, a4, a5, a6⟩ := boxed_app (n₀ := W.heap.size) Q1D.out (by decide) Q2D.out (by show _ ≤ W'.heap.size; omega) (Nat.le_refl _) (by omega) r1 r2
          have ko : KeepsOthers W' (w1.setCell ⟨W.heap.size, 0, none⟩ v') := (KeepsOthers.drew W').trans a4
          refine ⟨ko.from _, a6 (W.heap.size + 1) (by omega) (by omega), ⟨⟨v', a2, ?_, trivial⟩, ⟨Q4.out.drew.trans a5, Q5.out.trans (ko.from _)⟩, ?_⟩⟩
          · rw [HZ.out] at a3
            simpa using a3
          · have := ko.size
            omega
      · exact Or.inl ⟨false, false, false, false, false, false, false, false, false, ⟨by simp, by simp, by simp, by simp, by simp⟩, rfl, rfl, rfl⟩
      · rintro listed a w' i oi (⟨b0, b1, b2, b3, b4, b5, b6, b7, b8, ⟨e3, e4, e6, e7, e8⟩, rfl, rfl, rfl⟩ | ⟨rfl, v', w1, rfl, rfl, r1, r2⟩ | ⟨rfl, _⟩) ho hun hdep
        · have hi : i < 11 := by simpa using (Array.getElem?_eq_some_iff.1 ho).1
          obtain rfl | rfl | rfl | rfl | rfl | rfl | rfl | rfl | rfl | rfl | rfl : i = 0 ∨ i = 1 ∨ i = 2 ∨ i = 3 ∨ i = 4 ∨ i = 5 ∨ i = 6 ∨ i = 7 ∨ i = 8 ∨ i = 9 ∨ i = 10 := by omega
          · -- 0
            simp only [List.getElem?_toArray, List.getElem?_cons_zero, Option.some.injEq] at ho
            subst ho
            have hb0 : b0 = false := by simpa using hun
            subst hb0
            cases b8
            · refine wpOpIn_step rfl (fun K hK => ?_)
              clear hun hdep hi
              go_simp
              refine hK _ _ (Or.inl ⟨true, b1, b2, b3, b4, b5, b6, b7, false, ⟨?_, ?_, ?_, ?_, ?_⟩, rfl, rfl, rfl⟩) <;> simp_all
            · obtain rfl := e8 rfl
              obtain rfl := e7 rfl
              obtain ⟨rfl, rfl⟩ := e6 rfl
              obtain rfl := e4 rfl
              obtain ⟨rfl, rfl⟩ := e3 rfl
              refine wpOpIn_step rfl (fun K hK => ?_)
              clear hun hdep hi
              go_simp
              refine hK _ _ (Or.inl ⟨true, true, true, true, true, true, true, true, true, ⟨?_, ?_, ?_, ?_, ?_⟩, rfl, rfl, rfl⟩) <;> simp_all
          · -- 1
            simp only [List.getElem?_toArray, List.getElem?_cons_succ, List.getElem?_cons_zero, Option.some.injEq] at ho
            subst ho
            have hb1 : b1 = false := by simpa using hun
            subst hb1
            obtain rfl : b8 = false := by cases b8 with | false => rfl | true => simp_all
            refine wpOpIn_step rfl (fun K hK => ?_)
            clear hun hdep hi 
            go_simp
            refine hK _ _ (Or.inl ⟨b0, true, b2, b3, b4, b5, b6, b7, false, ⟨?_, ?_, ?_, ?_, ?_⟩, rfl, rfl, rfl⟩) <;> simp_all
          · -- 2
            simp only [List.getElem?_toArray, List.getElem?_cons_succ, List.getElem?_cons_zero, Option.some.injEq] at ho
            subst ho
            have hb2 : b2 = false := by simpa using hun
            subst hb2
            obtain rfl : b8 = false := by cases b8 with | false => rfl | true => simp_all
            refine wpOpIn_step rfl (fun K hK => ?_)
            clear hun hdep hi 
            go_simp
            refine hK _ _ (Or.inl ⟨b0, b1, true, b3, b4, b5, b6, b7, false, ⟨?_, ?_, ?_, ?_, ?_⟩, rfl, rfl, rfl⟩) <;> simp_all
          · -- 3
            simp only [List.getElem?_toArray, List.getElem?_cons_succ, List.getElem?_cons_zero, Option.some.injEq] at ho
            subst ho
            have hb3 : b3 = false := by simpa using hun
            have hb1 : b1 = true := by have := hdep ⟨1, .data⟩ (by simp) rfl; simpa using this
            have hb2 : b2 = true := by have := hdep ⟨2, .data⟩ (by simp) rfl; simpa using this
            subst hb3
            subst hb1
            subst hb2
            obtain rfl : b8 = false := by cases b8 with | false => rfl | true => simp_all
            refine wpOpIn_step rfl (fun K hK => ?_)
            clear hun hdep hi 
            go_simp
            refine hK _ _ (Or.inl ⟨b0, true, true, true, b4, b5, b6, b7, false, ⟨?_, ?_, ?_, ?_, ?_⟩, rfl, rfl, rfl⟩) <;> simp_all
          · -- 4
            simp only [List.getElem?_toArray, List.getElem?_cons_succ, List.getElem?_cons_zero, Option.some.injEq] at ho
            subst ho
            have hb4 : b4 = false := by simpa using hun
            have hb3 : b3 = true := by have := hdep ⟨3, .data⟩ (by simp) rfl; simpa using this
            subst hb4
            subst hb3
            obtain rfl : b8 = false := by cases b8 with | false => rfl | true => simp_all
            obtain ⟨rfl, rfl⟩ := e3 rfl
            refine wpOpIn_step rfl (fun K hK => ?_)
            clear hun hdep hi 
            go_simp
            refine hK _ _ (Or.inl ⟨b0, true, true, true, true, b5, b6, b7, false, ⟨?_, ?_, ?_, ?_, ?_⟩, rfl, rfl, rfl⟩) <;> simp_all
          · -- 5
            simp only [List.getElem?_toArray, List.getElem?_cons_succ, List.getElem?_cons_zero, Option.some.injEq] at ho
            subst ho
            have hb5 : b5 = false := by simpa using hun
            subst hb5
            obtain rfl : b8 = false := by cases b8 with | false => rfl | true => simp_all
            refine wpOpIn_step rfl (fun K hK => ?_)
            clear hun hdep hi 
            go_simp
            refine hK _ _ (Or.inl ⟨b0, b1, b2, b3, b4, true, b6, b7, false, ⟨?_, ?_, ?_, ?_, ?_⟩, rfl, rfl, rfl⟩) <;> simp_all
          · -- 6
            simp only [List.getElem?_toArray, List.getElem?_cons_succ, List.getElem?_cons_zero, Option.some.injEq] at ho
            subst ho
            have hb6 : b6 = false := by simpa using hun
            have hb4 : b4 = true := by have := hdep ⟨4, .data⟩ (by simp) rfl; simpa using this
            have hb5 : b5 = true := by have := hdep ⟨5, .data⟩ (by simp) rfl; simpa using this
            subst hb6
            subst hb4
            subst hb5
            obtain rfl : b8 = false := by cases b8 with | false => rfl | true => simp_all
            obtain rfl := e4 rfl
            obtain ⟨rfl, rfl⟩ := e3 rfl
            refine wpOpIn_step rfl (fun K hK => ?_)
            clear hun hdep hi 
            go_simp
            refine hK _ _ (Or.inl ⟨b0, true, true, true, true, true, true, b7, false, ⟨?_, ?_, ?_, ?_, ?_⟩, rfl, rfl, rfl⟩) <;> simp_all
          · -- 7
            simp only [List.getElem?_toArray, List.getElem?_cons_succ, List.getElem?_cons_zero, Option.some.injEq] at ho
            subst ho
            have hb7 : b7 = false := by simpa using hun
            have hb6 : b6 = true := by have := hdep ⟨6, .data⟩ (by simp) rfl; simpa using this
            subst hb7
            subst hb6
            obtain rfl : b8 = false := by cases b8 with | false => rfl | true => simp_all
            obtain ⟨rfl, rfl⟩ := e6 rfl
            obtain rfl := e4 rfl
            obtain ⟨rfl, rfl⟩ := e3 rfl
            refine wpOpIn_step rfl (fun K hK => ?_)
            clear hun hdep hi 
            go_simp
            refine hK _ _ (Or.inl ⟨b0, true, true, true, true, true, true, true, false, ⟨?_, ?_, ?_, ?_, ?_⟩, rfl, rfl, rfl⟩) <;> simp_all
          · -- 8
            simp only [List.getElem?_toArray, List.getElem?_cons_succ, List.getElem?_cons_zero, Option.some.injEq] at ho
            subst ho
            have hb8 : b8 = false := by simpa using hun
            have hb7 : b7 = true := by have := hdep ⟨7, .data⟩ (by simp) rfl; simpa using this
            subst hb8
            subst hb7
            obtain rfl := e7 rfl
            obtain ⟨rfl, rfl⟩ := e6 rfl
            obtain rfl := e4 rfl
            obtain ⟨rfl, rfl⟩ := e3 rfl
            refine wpOpIn_step rfl (fun K hK => ?_)
            clear hun hdep hi 
            go_simp
            refine hK _ _ (Or.inl ⟨b0, true, true, true, true, true, true, true, true, ⟨?_, ?_, ?_, ?_, ?_⟩, rfl, rfl, rfl⟩) <;> simp_all
          · -- 9
            simp only [List.getElem?_toArray, List.getElem?_cons_succ, List.getElem?_cons_zero, Option.some.injEq] at ho
            subst ho
            obtain rfl : b0 = true := by have := hdep ⟨0, .data⟩ (by simp) rfl; simpa using this
            obtain rfl : b8 = true := by have := hdep ⟨8, .data⟩ (by simp) rfl; simpa using this
            obtain rfl := e8 rfl
            obtain rfl := e7 rfl
            obtain ⟨rfl, rfl⟩ := e6 rfl
            obtain rfl := e4 rfl
            obtain ⟨rfl, rfl⟩ := e3 rfl
            refine wpOpIn_step rfl (fun K hK => ?_)
            clear hun hdep hi
            refine PR.stepIn_append_own _ rfl _ _ 23 rfl (W.heap.size + 2) 2 j0 (.int .i64 0) 1 8 Try.underlying23 hj hyy0 hyy1 hyy2 rfl (by decide) vr pre'.length _ rfl (Q2D.out.alloc _) ⟨W'.heap.size, 0, none⟩ 1 1 [.int .i64 z] rfl rfl (cell_one_new W'.drew _ _) (by simp [Value.oneCell']) (by unfold maxLen; omega) (by omega) (by simp; omega) ?_
            intro v' w1 r1 r2 _
            exact hK _ _ (Or.inr (Or.inl ⟨rfl, v', w1, rfl, rfl, r1, r2⟩))
          · -- 10
            simp only [List.getElem?_toArray, List.getElem?_cons_succ, List.getElem?_cons_zero, Option.some.injEq] at ho
            subst ho
            have := hdep ⟨9, .data⟩ (by simp) rfl
            simp at this
        · have hi : i < 11 := by simpa using (Array.getElem?_eq_some_iff.1 ho).1
          obtain rfl : i = 10 := by
            obtain rfl | rfl | rfl | rfl | rfl | rfl | rfl | rfl | rfl | rfl | rfl : i = 0 ∨ i = 1 ∨ i = 2 ∨ i = 3 ∨ i = 4 ∨ i = 5 ∨ i = 6 ∨ i = 7 ∨ i = 8 ∨ i = 9 ∨ i = 10 := by omega
            all_goals first | rfl | (simp at hun)
          simp only [List.getElem?_toArray, List.getElem?_cons_succ, List.getElem?_cons_zero, Option.some.injEq] at ho
          subst ho
          obtain ⟨a1, _⟩ := boxed_app (n₀ := W.heap.size) Q1D.out (by decide) Q2D.out (by show _ ≤ W'.heap.size; omega) (Nat.le_refl _) (by omega) r1 r2
          obtain ⟨g', cap', rfl⟩ := ownsRow_succ r1
          have k1 := a1.cell
          have k2 := a1.frozen
          refine wpOpIn_step rfl (fun K hK => ?_)
          clear hun hdep hi
          go_simp
          exact hK _ _ (Or.inr (Or.inr ⟨rfl, _, _, rfl, rfl, r1, r2⟩))
        · exfalso
          have hi : i < 11 := by simpa using (Array.getElem?_eq_some_iff.1 ho).1
          obtain rfl | rfl | rfl | rfl | rfl | rfl | rfl | rfl | rfl | rfl | rfl : i = 0 ∨ i = 1 ∨ i = 2 ∨ i = 3 ∨ i = 4 ∨ i = 5 ∨ i = 6 ∨ i = 7 ∨ i = 8 ∨ i = 9 ∨ i = 10 := by omega
          all_goals simp at hun
    case done2 =>
      rintro ys W' rfl ⟨⟨vr, q1, q2, _⟩, ⟨q4, q5⟩, q6⟩
      obtain ⟨av, cv, rfl⟩ : ∃ a c, vr = .slice a (memTo M.length cs M.length).length c := by
        rcases q2.2 with ⟨rfl, h0⟩ | ⟨g, cap, cur, rfl, _⟩
        · exact ⟨none, 0, by rw [h0]⟩
        · exact ⟨_, cap, rfl⟩
      have p1 : Boxed W' (w.heap.size + 1 + 1) 22 v := (q4.block _ g1.lt).trans g1
      have p2 := g2.keep q4.size (fun q _ hq => q4.block q hq)
      have c9 := q1.cell
      have c7 := p1.cell
      have hpl : (partTo M cs pre).length = pre.length := by simp [partTo]
      have htop : W'.ownsRow (w.heap.size + 4) 23 1 v pre.length us := by rw [← hpl]; exact own_based p2.rows.top (fun b hb => (p2.mb b hb).1)
      have Q2 := Lib.hid q2
      have Q4 := Lib.hid q4
      have Q5 := Lib.hid q5
      have G2 := Lib.hid g2
      have HP1 := Lib.hid p1
      have HTP := Lib.hid htop
      have hzz : W.heap.size ≤ W'.heap.size := q4.size
      clear q2 q4 q5 g2 p1 p2 htop q1
      gi_wp2_with (gi_at_builtin; refine wpListIn_append_own _ rfl _ _ 22 rfl (w.heap.size + 4) 23 i0 (.slice none 0 0) 1 24 Try.underlying22 hi hzz0 hzz1 hzz2 rfl (by decide) _ _ _ rfl (HTP.out.alloc _) ⟨W'.heap.size, 0, none⟩ 1 1 [.slice av (memTo M.length cs M.length).length cv] rfl rfl (cell_one_new _ _ _) (by simp [Value.oneCell']) (by unfold maxLen; omega) (by omega) (by simp; omega) ?_; intro v' w1 hown' hgrow _; obtain ⟨g', cap', rfl⟩ := ownsRow_succ hown'; obtain ⟨a1, a2, a3, a4, a5, a6⟩ := boxed_app (n₀ := w.heap.size) HP1.out (by decide) HTP.out (by omega) (by omega) (by omega) hown' hgrow; have k1 := a1.cell; have k2 := a1.frozen)
      have hu : OwnI W' (.slice av (memTo M.length cs M.length).length cv) (rowL M cs x.val) := by
        have := own_base' Q2.out
        unfold OwnI rowL
        simpa using this
      have hub : ∀ b, (Value.slice av (memTo M.length cs M.length).length cv).ownBlock = some b → W.heap.size ≤ b ∧ b < W'.heap.size := fun b hb => by
        rcases Q2.out.2 with ⟨hv, _⟩ | ⟨g, cap, cur, hv, hg1, hg2, _⟩
        · rw [hv] at hb; simp [Value.ownBlock] at hb
        · rw [hv] at hb
          simp [Value.ownBlock] at hb
          subst hb
          exact ⟨by omega, (Array.getElem?_eq_some_iff.1 hg2).1⟩
      have hbA : Below W.heap.size W (W'.alloc (.cells #[.slice av (memTo M.length cs M.length).length cv] 23)) := Q4.out.alloc hzz _
      have hpush := G2.out.push g6 hbA (ownI_kept' (hu) (World.grownBy_alloc W' _ none) (fun _ _ c => by cases c)) (fun b hb => ⟨(hub b hb).1, by have := (hub b hb).2; simp; omega⟩) (by rw [hpl]; exact hown') hgrow
      have hpush2 := hpush.keep (W' := w1.setCell ⟨w.heap.size + 1 + 1, 0, none⟩ (.slice (some ⟨g', 0, none⟩) (pre.length + 1) cap')) (by simp) (fun q hq _ => Below.heap_setCell _ ⟨w.heap.size + 1 + 1, 0, none⟩ _ q (by show q ≠ w.heap.size + 1 + 1; omega))
      have hpt : partTo M cs pre ++ [rowL M cs x.val] = partTo M cs (pre ++ [x]) := by simp [partTo]
      rw [hpt] at hpush2
      gi_wp2
      refine ⟨Q5.out.trans (a4.from _), (a6 _ (by omega) (by omega)).trans (Q4.out.block _ (by omega)), ⟨_, _, a2, hpush2⟩, ⟨(a6 _ (by omega) (by omega)).trans ((Q4.out.block _ g3.lt).trans g3), (a6 _ (by omega) (by omega)).trans ((Q4.out.block _ g4.lt).trans g4)⟩, g5.trans ((Q4.out.mono g5.size).trans a5), ?_⟩
      have := a5.size
      omega
    case stop2 =>
      rintro c pre' W' _ h
      exact h.elim
  case done =>
    rintro D zs W hD rfl ⟨⟨v, us, g1, g2⟩, ⟨g3, g4⟩, g5, g6⟩ hK
    have cS := g1.cell
    gi_wp2
    refine ⟨by simp, .inl ⟨_, _, rfl, run_takeDeferred hK, ?_⟩⟩
    refine ⟨_, results_tmp rfl _ _ _, v, us, rfl, ?_, g5.trans (belowK_b (w := w) (Nat.le_refl _) W D _ _ (by omega) hK rfl rfl)⟩
    have hkc : KC W (W.putObj D (.deferred none)) := KC.of (grownBy_putObj' W D (.deferred none)) (fun r e => by cases e; exact ⟨_, hK, rfl⟩)
    exact (hkc.ownRs g2).mono (by omega)
  case stop =>
    rintro D c pre W _ _ h _
    exact h.elim
end Go.Proofs.Ytoifpjmhikgjgaa.PW
