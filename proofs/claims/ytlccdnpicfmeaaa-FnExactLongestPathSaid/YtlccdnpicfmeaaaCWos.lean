/-
  Walks: a set of vertices without its sinks, in the program.
-/
import Derived.Test.YtlccdnpicfmeaaaCWom
import Derived.Test.YtlccdnpicfmeaaaCOmw
namespace Go.Proofs.Ytlccdnpicfmeaaa.PW
open Go.RowKit Go.Shelf Go.Proofs.Ytlccdnpicfmeaaa Go.Proofs.Ytlccdnpicfmeaaa.SW
open Go.Proofs.Ytlccdnpicfmeaaa.PM
attribute [local go_sem] Oper.semAt_some

/-- While a turn is reckoned: what stands. -/
structure Wos (w W : World) (F : Nat → Int) (X o : Nat) : Prop where
  ar : Arr W w.heap.size F
  vx : Boxed W (w.heap.size + 1) 2 (.int .i64 X)
  nx : Boxed W (w.heap.size + 1 + 1) 2 (.int .i64 o)
  mb : Boxed W (w.heap.size + 1 + 1 + 1) 2 (.int .i64 X)
  low : Below w.heap.size w W
theorem Wos.kc {w W W' : World} {F : Nat → Int} {X o : Nat} (h : Wos w W F X o) (k : KC W W') (hb : Below w.heap.size w W') : Wos w W' F X o :=
  ⟨k.same _ _ _ _ h.ar, k.same _ _ _ _ h.vx, k.same _ _ _ _ h.nx, k.same _ _ _ _ h.mb, hb⟩
theorem Wos.lt {w W : World} {F : Nat → Int} {X o : Nat} (h : Wos w W F X o) : w.heap.size + 1 + 1 + 1 < W.heap.size := h.mb.lt
theorem Wos.alloc {w W : World} {F : Nat → Int} {X o : Nat} (h : Wos w W F X o) (ob : Obj) : Wos w (W.alloc ob) F X o := by
  have hl := h.lt
  exact ⟨(heap_alloc_old W ob (by omega)).trans h.ar, h.vx.alloc _, h.nx.alloc _, h.mb.alloc _, h.low.alloc (by omega) _⟩
theorem Wos.set {w W : World} {F : Nat → Int} {X o : Nat} (h : Wos w W F X o) (o' : Nat) : Wos w (W.setCell ⟨w.heap.size + 1 + 1, 0, none⟩ (.int .i64 o')).drew F X o' := by
  have h1 : Below w.heap.size w (W.setCell ⟨w.heap.size + 1 + 1, 0, none⟩ (.int .i64 o')) := h.low.setCell (by show w.heap.size ≤ w.heap.size + 1 + 1; omega) _
  have a0 : Arr (W.setCell ⟨w.heap.size + 1 + 1, 0, none⟩ (.int .i64 o')) w.heap.size F := (heap_setCell_other W _ _ _ (by show w.heap.size ≠ w.heap.size + 1 + 1; omega)).trans h.ar
  have a1 : Boxed (W.setCell ⟨w.heap.size + 1 + 1, 0, none⟩ (.int .i64 o')) (w.heap.size + 1) 2 (.int .i64 X) := h.vx.other (by omega) _
  have a2 : Boxed (W.setCell ⟨w.heap.size + 1 + 1, 0, none⟩ (.int .i64 o')) (w.heap.size + 1 + 1) 2 (.int .i64 o') := h.nx.set _
  have a3 : Boxed (W.setCell ⟨w.heap.size + 1 + 1, 0, none⟩ (.int .i64 o')) (w.heap.size + 1 + 1 + 1) 2 (.int .i64 X) := h.mb.other (by omega) _
  exact ⟨a0, a1, a2, a3, h1.drew⟩
theorem boxed_kb {W W' : World} {b : Nat} {t : TypeId} {v : Value} (h : Boxed W b t v) (h' : Boxed W' b t v) : KB b W W' := Eq.trans h' (Eq.symm h)
theorem membersOf_n2 (n : Nat) (s : Int) (w : World) :
    CallsIn Fence.wide n Try.prog 65 #[.int .i64 s] w fun e w' => e = .returned (.func (.func 90) #[] #[.pointer (some ⟨w.heap.size, 0, none⟩)]) ∧ w' = w.alloc (.cells #[.int .i64 s] 2) :=
  callsIn_wide.2 (callsIn_wide.1 (membersOf_in s w))
theorem inW_int (X v o i T : Nat) (hX : X < 2 ^ 62) (hT : T ≤ 32) (hv : v < T) (ho : o < 2 ^ T) :
    bits BinOp.or IntKind.i64 (o : Int) (bits BinOp.and IntKind.i64 ((X : Int) / 2 ^ (v ^^^ 2 ^ i)) 1 * 2 ^ v) = ((inW X v o i : Nat) : Int) := by
  have hT2 : (2 : Nat) ^ T ≤ 2 ^ 32 := Nat.pow_le_pow_right (by decide) hT
  have h32 : (2 : Nat) ^ 32 < 2 ^ 62 := by decide
  have hv2 : (2 : Nat) ^ v < 2 ^ 62 := Nat.pow_lt_pow_right (by decide) (by omega)
  rw [shr_and X _ hX]
  unfold inW
  cases X.testBit (v ^^^ 2 ^ i)
  · rw [if_neg (by simp), if_neg (by simp), Int.zero_mul]
    have := ob_nat o 0 (by omega) (by decide)
    rw [Nat.or_zero] at this
    exact this
  · rw [if_pos rfl, if_pos rfl, Int.one_mul]
    have := ob_nat o (2 ^ v) (by omega) hv2
    rw [Int.natCast_pow] at this
    exact this
theorem wrap_kind (x : Int) : IntKind.i64.wrap x = wrap64 x := by rw [IntKind.wrap_i64, wrap64]
theorem wrap_pow32 {y : Int} (h : y = 0 ∨ y = 1) {v : Nat} (hv : v < 32) : wrap64 (y * 2 ^ v) = y * 2 ^ v := by
  have hp : (2 : Int) ^ v ≤ 2147483648 := by
    have h1 : (2 : Nat) ^ v ≤ 2 ^ 31 := Nat.pow_le_pow_right (by decide) (by omega)
    have h2 : ((2 ^ v : Nat) : Int) = (2 : Int) ^ v := by rw [Int.natCast_pow]; rfl
    have h3 : (2 : Nat) ^ 31 = 2147483648 := by decide
    omega
  have hp0 : (0 : Int) < 2 ^ v := Int.pow_pos (by decide)
  generalize (2 : Int) ^ v = p at *
  rcases h with rfl | rfl
  · rw [Int.zero_mul]; unfold wrap64; omega
  · rw [Int.one_mul]; unfold wrap64; omega

set_option maxRecDepth 100000 in
set_option maxHeartbeats 4000000 in
theorem withoutSinks_in (F : Nat → Int) (f : Nat → Nat) (n T X : Nat) (w : World) (hn : n ≤ 5) (hT : T = 2 ^ n) (hX : X < 2 ^ T) (hf : ∀ j, j < T → F j = ((f j : Nat) : Int) ∧ f j < T) :
    CallsIn Fence.wide 8 Try.prog 94 #[arrV F, .int .i64 X] w fun e w' => e = .returned (.int .i64 (ouL X f n (mk (X : Int) T))) ∧ Below w.heap.size w w' := by
  have hmx : Try.prog.follows .mixedOrders = true := by kernel_rfl
  have hT32 : T ≤ 32 := by rw [hT]; exact pow_le_32 hn
  have hX62 : X < 2 ^ 62 := Nat.lt_of_lt_of_le hX (Nat.pow_le_pow_right (by decide) (by omega))
  have HXT : Hid ((X : Int) < 2 ^ T) := by
    show _ < _
    have : ((2 ^ T : Nat) : Int) = (2 : Int) ^ T := by rw [Int.natCast_pow]; rfl
    omega
  have HFN := Lib.hid (show ∀ j, j < T → (f j : Int) < 2 ^ n from fun j hj => by
    have h1 := (hf j hj).2
    have : ((2 ^ n : Nat) : Int) = (2 : Int) ^ n := by rw [Int.natCast_pow]; rfl
    omega)
  have HF := Lib.hid hf
  have HNB := Lib.hid (show ∀ v i, v < T → i < n → v ^^^ 2 ^ i < T from fun v i hv hi => by rw [hT] at hv ⊢; exact nb_lt hv hi)
  have HMK : Hid ((memTo T (X : Int) T).map Fin.val = mk (X : Int) T) := mk_mem T _ T (Nat.le_refl _)
  have HMN := Lib.hid (fun v => mk_mem n (f v : Int) n (Nat.le_refl _))
  have HOL := Lib.hid (fun (pre : List (Fin T)) => show ouL X f n (pre.map Fin.val) < 2 ^ T from ouL_lt _ (fun v hv => by obtain ⟨u, _, rfl⟩ := List.mem_map.1 hv; exact u.isLt) 0 (Nat.pow_pos (by decide)))
  have HIL := Lib.hid (fun (v o : Nat) (hv : v < T) (ho : o < 2 ^ T) (l : List Nat) => inL_lt (X := X) hv l ho)
  have HX62 := Lib.hid hX62
  have hX63 : (X : Int) ≤ 9223372036854775807 := by omega
  unfold arrV
  clear hf hT hX hX62
  refine callsIn_of_wp_marks Try.func94 rfl trivial ?_ rfl
  simp only [Try.ntmps94, List.size_toArray, List.length_cons, List.length_nil, Nat.reduceAdd, Nat.reduceSub, Array.replicate_succ, Array.replicate_zero, List.push_toArray, List.append_toArray, List.nil_append, List.cons_append]
  gi_wp2_with (refine ⟨trivial, ?_⟩; gi_at_call 65; refine (membersOf_n2 _ _ _).mono ?_; rintro e w' ⟨rfl, rfl⟩)
  obtain ⟨W0, hW0⟩ : ∃ W0, ((((w.alloc (.cells (arrC F) 76)).alloc (.cells #[.int .i64 X] 2)).alloc (.cells #[.int .i64 0] 2)).alloc (.cells #[.int .i64 X] 2)) = W0 := ⟨_, rfl⟩
  have hN0 : Wos w W0 F X (ouL X f n []) := by
    rw [← hW0]
    have e1 := Boxed.new (w.alloc (.cells (arrC F) 76)) 2 (.int .i64 X)
    have e2 := Boxed.new ((w.alloc (.cells (arrC F) 76)).alloc (.cells #[.int .i64 X] 2)) 2 (.int .i64 0)
    have e3 := Boxed.new (((w.alloc (.cells (arrC F) 76)).alloc (.cells #[.int .i64 X] 2)).alloc (.cells #[.int .i64 0] 2)) 2 (.int .i64 X)
    rw [World.size_alloc] at e1
    rw [World.size_alloc, World.size_alloc] at e2
    rw [World.size_alloc, World.size_alloc, World.size_alloc] at e3
    have a0 : Arr (w.alloc (.cells (arrC F) 76)) w.heap.size F := heap_alloc_new w _
    exact ⟨(heap_alloc_old _ _ (by simp; omega)).trans ((heap_alloc_old _ _ (by simp; omega)).trans ((heap_alloc_old _ _ (by simp)).trans a0)), (e1.alloc _).alloc _, e2.alloc _, e3, by (repeat' (first | (with_reducible exact Below.refl _ _) | (with_reducible assumption) | (with_reducible refine Below.alloc ?_ ?_ _) | (with_reducible refine Below.drew ?_) | (with_reducible refine below_drewN ?_ _) | (with_reducible refine Below.setCell ?_ ?_ _) | (with_reducible refine Below.trans ?_ (Below.mono (by with_reducible assumption) ?_)) | (with_reducible exact Below.size (by with_reducible assumption)) | go_size))⟩
  have bS : W0.cell? ⟨w.heap.size + 1 + 1 + 1, 0, none⟩ = some (.int .i64 X) := hN0.mb.cell
  have hsz : W0.heap.size = w.heap.size + 4 := by rw [← hW0]; simp
  rw [hW0]
  clear hW0
  refine wpIn_rangeFunc_ownH (α := Fin T) rfl (by omega) (gf := 90) (lb := #[.pointer (some ⟨w.heap.size + 1 + 1 + 1, 0, none⟩)]) rfl trivial (enters_of Try.func90 (by kernel_rfl) rfl)
    (members_stops32 T hT32 (X : Int) (by omega) HXT.out (w.heap.size + 1 + 1 + 1) W0 (by omega) bS) (fun h k => KB.trans h k) (KB.put (by omega)) (Below.refl _ _) (fun _ => rfl)
    (fun (pre : List (Fin T)) W => Wos w W F X (ouL X f n (pre.map Fin.val)) ∧ w.heap.size + 4 ≤ W.heap.size)
    (fun _ _ _ => False)
    (fun s A B row hs hg hr => by
      obtain ⟨g1, g6⟩ := hs
      have hk := KC.of hg (fun r e => (hr r e).2)
      exact ⟨g1.kc hk (ownFrom_below (β := Unit) (Nat.le_refl _) (by omega) () A B row g1.low hg hr), Nat.le_trans g6 hk.size⟩)
    (fun _ _ _ _ _ h _ _ => h)
    ⟨hN0, by omega⟩
    (fun x a' W => ∃ Bx, w.heap.size + 4 ≤ Bx ∧ Boxed W Bx 3 (.int .i64 (x.val : Int)) ∧ a' = { tmps := #[.agg (arrC F), .int .i64 X, .pointer (some ⟨w.heap.size, 0, none⟩), .pointer (some ⟨w.heap.size + 1, 0, none⟩), .int .i64 0, .pointer (some ⟨w.heap.size + 1 + 1, 0, none⟩), .pointer (some ⟨Bx, 0, none⟩), undef, .int .i64 X, .func (.func 90) #[] #[.pointer (some ⟨w.heap.size + 1 + 1 + 1, 0, none⟩)], .int .i64 ((x : Fin T).val : Int), undef, undef, undef, undef, undef, undef, undef, undef, undef, undef, undef, undef, undef, undef, undef, undef, undef], defers := [] })
    (fun x a' _ A B row hs hg hr => by obtain ⟨Bx, q1, q2, q3⟩ := hs; exact ⟨Bx, q1, (KC.of hg (fun r e => (hr r e).2)).same _ _ _ _ q2, q3⟩)
    ?assign ?body ?done ?stop
  case assign =>
    rintro l pre x W K ⟨g1, g6⟩ hK
    gi_wp2
    refine hK _ _ ((KeepsOthers.alloc _ _).from _) (Below.heap_alloc _ _ _ (by omega)) ⟨g1.alloc _, by simp; omega⟩ ⟨W.heap.size, g6, Boxed.new W _ _, rfl⟩
  case body =>
    rintro l pre x a' W hl ⟨r, hr⟩ ⟨g1, g6⟩ ⟨Bx, hBx, bX, rfl⟩ hlt
    have hxT := x.isLt
    have hBxz := bX.lt
    have c1 := bX.cell
    obtain ⟨hF1, hF2⟩ := HF.out x.val hxT
    have c2 := g1.ar.cell x.val (by omega)
    rw [hF1] at c2
    have hfx63 : (f x.val : Int) ≤ 9223372036854775807 := by omega
    have hx63 : (x.val : Int) < 32 := by omega
    gi_wp2_with (refine ⟨trivial, ?_⟩; gi_at_call 65; refine (CallsIn.inRound l (membersOf_n2 _ _ _)).mono ?_; rintro e w' ⟨rfl, rfl⟩)
    obtain ⟨W1, hW1⟩ : ∃ W1, W.alloc (.cells #[.int .i64 (f x.val : Int)] 2) = W1 := ⟨_, rfl⟩
    have bS2 : W1.cell? ⟨W.heap.size, 0, none⟩ = some (.int .i64 (f x.val : Int)) := by rw [← hW1]; exact (Boxed.new W _ _).cell
    have hz1 : W1.heap.size = W.heap.size + 1 := by rw [← hW1]; simp
    have g1' : Wos w W1 F X (ouL X f n (pre.map Fin.val)) := by rw [← hW1]; exact g1.alloc _
    have bX1 : Boxed W1 Bx 3 (.int .i64 (x.val : Int)) := by rw [← hW1]; exact bX.alloc _
    have hKF1 : KeepsFrom W0.heap.size W W1 := by rw [← hW1]; exact (KeepsOthers.alloc _ _).from _
    have hr1 : W1.heap[l]? = some (.loop r) := by rw [← hW1, heap_alloc_old W _ (Array.getElem?_eq_some_iff.1 hr).1]; exact hr
    rw [hW1]
    clear hW1
    have ho := HOL.out pre
    obtain ⟨o, hoo⟩ : ∃ o, ouL X f n (pre.map Fin.val) = o := ⟨_, rfl⟩
    rw [hoo] at g1' ho
    have HOO := Lib.hid hoo
    have HO := Lib.hid ho
    have HMB := Lib.hid g1.mb
    clear hoo ho
    refine wpIn_rangeFunc_ownN (α := Fin n) (l₀ := l) (r₀ := r) rfl hr1 (by omega) (gf := 90) (lb := #[.pointer (some ⟨W.heap.size, 0, none⟩)]) rfl trivial (enters_of Try.func90 (by kernel_rfl) rfl)
      ((PR.seqStops_wide (members_stops n hn (f x.val : Int) (by omega) (HFN.out x.val hxT) W.heap.size W1 (by omega) bS2)).inRound l) (fun h k => KB.trans h k) (KB.put (by omega)) (Below.refl _ _) (fun _ => rfl)
      (fun (pre' : List (Fin n)) W' => Wos w W' F X (inL X x.val o (pre'.map Fin.val)) ∧ Boxed W' Bx 3 (.int .i64 (x.val : Int)) ∧ KeepsFrom W0.heap.size W W' ∧ W.heap.size + 1 ≤ W'.heap.size)
      (fun _ _ _ => False)
      (fun s A B row hs hg hr => by
        obtain ⟨q1, q2, q3, q4⟩ := hs
        have hk := KC.of hg (fun r e => (hr r e).2)
        exact ⟨q1.kc hk (ownFrom_below (β := Unit) (Nat.le_refl _) (by omega) () A B row q1.low hg hr), hk.same _ _ _ _ q2, ownFrom_keepsFrom (β := Unit) (by omega) () A B row q3 hg hr, Nat.le_trans q4 hk.size⟩)
      (fun _ _ _ _ _ h _ _ => h)
      ⟨g1', bX1, hKF1, by omega⟩
      (fun y a'' _ => a'' = { tmps := #[.agg (arrC F), .int .i64 X, .pointer (some ⟨w.heap.size, 0, none⟩), .pointer (some ⟨w.heap.size + 1, 0, none⟩), .int .i64 0, .pointer (some ⟨w.heap.size + 1 + 1, 0, none⟩), .pointer (some ⟨Bx, 0, none⟩), .int .i64 ((y : Fin n).val : Int), .int .i64 X, .func (.func 90) #[] #[.pointer (some ⟨w.heap.size + 1 + 1 + 1, 0, none⟩)], .int .i64 (x.val : Int), .int .i64 (x.val : Int), .pointer (some ⟨w.heap.size, x.val, none⟩), .int .i64 (f x.val : Int), .func (.func 90) #[] #[.pointer (some ⟨W.heap.size, 0, none⟩)], .int .i64 ((y : Fin n).val : Int), undef, undef, undef, undef, undef, undef, undef, undef, undef, undef, undef, undef], defers := [] })
      (fun _ _ _ _ _ _ hs _ _ => hs)
      ?assign2 ?body2 ?done2 ?stop2
    case assign2 =>
      rintro l2 pre' y W' K hi hK
      gi_wp2
      exact hK _ _ (KeepsFrom.refl _ _) (KB.refl _ _) hi rfl
    case body2 =>
      rintro l2 pre' y a'' W' _ _ ⟨q1, q2, q3, q4⟩ rfl hlt2
      have hyn := y.isLt
      have k0 := q1.vx.cell
      have k1 := q1.nx.cell
      have k2 := q1.nx.frozen
      have k3 := q2.cell
      have hoi := HIL.out x.val o hxT HO.out (pre'.map Fin.val)
      obtain ⟨oi, hoi2⟩ : ∃ oi, inL X x.val o (pre'.map Fin.val) = oi := ⟨_, rfl⟩
      rw [hoi2] at hoi k1 q1
      have hin := inW_int X x.val oi y.val T HX62.out hT32 hxT hoi
      have hnb := HNB.out x.val y.val hxT hyn
      have hpw := wrap_pow (show y.val ≤ 5 by omega)
      have hxb : bits BinOp.xor IntKind.i64 (x.val : Int) ((2 : Int) ^ y.val) = ((x.val ^^^ 2 ^ y.val : Nat) : Int) := by
        have := xb_nat x.val (2 ^ y.val) (by omega) (Nat.pow_lt_pow_right (by decide) (by omega))
        rw [Int.natCast_pow] at this
        exact this
      have hcase := and1_cases ((X : Int) / 2 ^ (x.val ^^^ 2 ^ y.val))
      obtain ⟨m, hm⟩ : ∃ m, x.val ^^^ 2 ^ y.val = m := ⟨_, rfl⟩
      rw [hm] at hin hnb hxb hcase
      obtain ⟨v, hv⟩ : ∃ v, bits BinOp.and IntKind.i64 ((X : Int) / 2 ^ m) 1 = v := ⟨_, rfl⟩
      rw [hv] at hin hcase
      have hwz := wrap_pow32 hcase (show x.val < 32 by omega)
      have hpw2 : IntKind.i64.wrap ((2 : Int) ^ y.val) = 2 ^ y.val := (wrap_kind _).trans hpw
      have hwz2 : IntKind.i64.wrap (v * 2 ^ x.val) = v * 2 ^ x.val := (wrap_kind _).trans hwz
      have hQ1 := Lib.hid (q1.set (inW X x.val oi y.val))
      have hsn : Hid (inL X x.val o ((pre' ++ [y]).map Fin.val) = inW X x.val oi y.val) := by show _ = _; rw [List.map_append, ← hoi2]; exact inL_snoc X x.val o (pre'.map Fin.val) y.val
      obtain ⟨o2, ho2⟩ : ∃ o2, inW X x.val oi y.val = o2 := ⟨_, rfl⟩
      rw [ho2] at hin hQ1 hsn
      have hko : Hid (KeepsOthers W' (W'.setCell ⟨w.heap.size + 1 + 1, 0, none⟩ (.int .i64 (o2 : Int))).drew) := (KeepsOthers.setCell W' _ _).trans (KeepsOthers.drew _)
      have hkb : Hid (KB W.heap.size W' (W'.setCell ⟨w.heap.size + 1 + 1, 0, none⟩ (.int .i64 (o2 : Int))).drew) := Below.heap_setCell W' _ _ _ (by show W.heap.size ≠ w.heap.size + 1 + 1; omega)
      have hbx : Hid (Boxed (W'.setCell ⟨w.heap.size + 1 + 1, 0, none⟩ (.int .i64 (o2 : Int))).drew Bx 3 (.int .i64 (x.val : Int))) := (Below.heap_setCell W' _ _ _ (by show Bx ≠ w.heap.size + 1 + 1; omega)).trans q2
      have Q3 := Lib.hid q3
      have hm63 : (m : Int) < 64 := by omega
      have hy64 : (y.val : Int) < 64 := by omega
      clear q1 q2 q3 hoi hoi2 hm hcase ho2 g1 g1' bX bX1 hKF1 bS2 hr1 hr c1 c2 hF1
      gi_wp2
      refine PR.wpIn_region_still_tail 11 hmx (by kernel_rfl) (by kernel_rfl) ?_
      simp only [List.take_succ_cons, List.take_zero, List.drop_succ_cons, List.drop_zero]
      repeat still_step
      refine wpStill_nil ?_
      gi_wp2
      exact ⟨hko.out.from _, hkb.out, ⟨by rw [hsn.out]; exact hQ1.out, hbx.out, Q3.out.trans (hko.out.from _), by simp; omega⟩⟩
    case done2 =>
      rintro ys W' rfl ⟨q1, q2, q3, q4⟩
      have hfin : inL X x.val o ((memTo n (f x.val : Int) n).map Fin.val) = ouL X f n ((pre ++ [x]).map Fin.val) := by rw [HMN.out x.val, List.map_append, show [x].map Fin.val = [x.val] from rfl, ouL_snoc, HOO.out]; rfl
      rw [hfin] at q1
      have HQ1 := Lib.hid q1
      have HQ3 := Lib.hid q3
      clear q1 q2 q3 hfin
      gi_wp2
      exact ⟨HQ3.out, boxed_kb HMB.out HQ1.out.mb, HQ1.out, by omega⟩
    case stop2 =>
      rintro c pre' W' _ h
      exact h.elim
  case done =>
    rintro D zs W hD rfl ⟨g1, g6⟩ hK
    have cN := g1.nx.cell
    have hfin := HMK.out
    rw [hfin] at cN
    have hbw : Below w.heap.size W (W.putObj D (.deferred none)) := belowK_b (w := w) (Nat.le_refl _) W D _ _ (by omega) hK rfl rfl
    have HB := Lib.hid (g1.low.trans hbw)
    clear hbw
    clear g1
    gi_wp2
    refine ⟨by simp, .inl ⟨_, _, rfl, run_takeDeferred hK, ?_⟩⟩
    refine ⟨.int .i64 (ouL X f n (mk (X : Int) T)), by simp [results, Try.results94, go_sem], ?_⟩
    exact ⟨rfl, HB.out⟩
  case stop =>
    rintro D c pre W _ _ h _
    exact h.elim
end Go.Proofs.Ytlccdnpicfmeaaa.PW
