/-
  Walks: the bits of a number in some directions, numbered anew: in the program and in the model.
-/
import Derived.Test.YtlccdnpicfmeaaaCUq
import Derived.Test.YtlccdnpicfmeaaaPColsA
namespace Go.Proofs.Ytlccdnpicfmeaaa.PW
open Go.RowKit Go.Proofs.Ytlccdnpicfmeaaa Go.Shelf
open Go.Proofs.Ytlccdnpicfmeaaa.PM
attribute [local go_sem] Oper.semAt_some

theorem and1_cases (X : Int) : bits BinOp.and IntKind.i64 X 1 = 0 ∨ bits BinOp.and IntKind.i64 X 1 = 1 := by
  rw [ab_eq, show BitVec.ofInt 64 1 = 1#64 from rfl, bit0_bv]
  split
  · right; rfl
  · left; rfl
def gaS (x : Int) (p : Int × Nat) (i : Nat) : Int × Nat := (bits BinOp.or IntKind.i64 p.1 (bits BinOp.and IntKind.i64 (x / 2 ^ i) 1 * 2 ^ p.2), p.2 + 1)
def gaL (x : Int) (pre : List Nat) : Int × Nat := pre.foldl (gaS x) (0, 0)
theorem gaL_snoc (x : Int) (pre : List Nat) (i : Nat) : gaL x (pre ++ [i]) = gaS x (gaL x pre) i := by unfold gaL; rw [List.foldl_append]; rfl
theorem gaL_snd (x : Int) (pre : List Nat) : (gaL x pre).2 = pre.length := by
  have : ∀ (l : List Nat) (p : Int × Nat), (l.foldl (gaS x) p).2 = p.2 + l.length := by
    intro l
    induction l with
    | nil => intro p; rfl
    | cons a l ih => intro p; rw [List.foldl_cons, ih]; simp [gaS]; omega
  unfold gaL
  rw [this]
  simp
def mk (d : Int) : Nat → List Nat
  | 0 => []
  | k + 1 => mk d k ++ (if bit d k then [k] else [])
theorem mk_len (d : Int) : ∀ k, (mk d k).length ≤ k
  | 0 => Nat.le_refl _
  | k + 1 => by have := mk_len d k; rw [mk, List.length_append]; split <;> simp <;> omega
theorem mk_mem (n : Nat) (d : Int) : ∀ k, k ≤ n → (memTo n d k).map Fin.val = mk d k
  | 0, _ => rfl
  | k + 1, h => by
    rw [memTo, mk, List.map_append, mk_mem n d k (by omega), dif_pos (by omega)]
    split <;> rfl
theorem mk_high {d : Int} {n : Nat} (h0 : 0 ≤ d) (h : d < 2 ^ n) : ∀ j, mk d (n + j) = mk d n
  | 0 => rfl
  | j + 1 => by
    rw [← Nat.add_assoc, mk, mk_high h0 h j, if_neg (by rw [bit_high h0 (div_small h0 h) (by omega)]; simp), List.append_nil]
/-- x gathered in the directions d. -/
def gaI (x d : Int) : Int := (gaL x (mk d 5)).1
theorem wrap_one {y : Int} (h : y = 0 ∨ y = 1) {a : Nat} (ha : a ≤ 5) : wrap64 (y * 2 ^ a) = y * 2 ^ a := by
  rcases h with rfl | rfl
  · rw [Int.zero_mul]; unfold wrap64; omega
  · rw [Int.one_mul]; exact wrap_pow ha

set_option maxRecDepth 100000 in
set_option maxHeartbeats 2000000 in
theorem l06Gather_any (x d : Int) (w : World) : Calls Try.prog 75 #[.int .i64 x, .int .i64 d] w fun e w' => e = .returned (.int .i64 (gaI x d)) ∧ w' = w := by
  have HS := Lib.hid (fun k => mk_len d k)
  obtain ⟨R, hR⟩ : ∃ R, R = gaI x d := ⟨_, rfl⟩
  have HRR := Lib.hid (show R = (gaL x (mk d 5)).1 from hR)
  rw [← hR]
  clear hR
  go_enter Try.func75, Try.ntmps75
  go_wp2_with fail
  go_loopw [5, 6, 7] (fun o a i wr => (∃ k : Nat, k ≤ 5 ∧ i = .int .u64 k ∧ o = .int .i64 (gaL x (mk d k)).1 ∧ a = .int .u64 ((gaL x (mk d k)).2 : Nat)) ∧ wr = w) (fun _ _ i _ => 5 - (intOf i).toNat)
  case atStart => exact ⟨⟨0, by omega, by go_num, rfl, rfl⟩, rfl⟩
  case round =>
    obtain ⟨⟨k, hk, rfl, rfl, rfl⟩, hw⟩ := hrel
    have hw' := hw.symm
    clear hw
    subst hw'
    have hl := HS.out k
    have h2 := gaL_snd x (mk d k)
    by_cases hlt : k < 5
    · have hst : Hid (mk d (k + 1) = mk d k ++ (if bit d k then [k] else [])) := rfl
      have hga := Lib.hid (gaL_snoc x (mk d k) k)
      have hcase := and1_cases (x / 2 ^ k)
      obtain ⟨y, hy⟩ : ∃ y, bits BinOp.and IntKind.i64 (x / 2 ^ k) 1 = y := ⟨_, rfl⟩
      have hgs : Hid (gaS x (gaL x (mk d k)) k = (bits BinOp.or IntKind.i64 (gaL x (mk d k)).1 (y * 2 ^ (gaL x (mk d k)).2), (gaL x (mk d k)).2 + 1)) := by show _ = _; unfold gaS; rw [hy]
      rw [hy] at hcase
      have hwr := wrap_one hcase (a := (gaL x (mk d k)).2) (by omega)
      obtain ⟨z, hz⟩ : ∃ z, y * 2 ^ (gaL x (mk d k)).2 = z := ⟨_, rfl⟩
      rw [hz] at hgs hwr
      have HZ := Lib.hid hz
      have ha5 : (gaL x (mk d k)).2 ≤ 5 := by omega
      obtain ⟨o, ho⟩ : ∃ o, (gaL x (mk d k)).1 = o := ⟨_, rfl⟩
      obtain ⟨a, ha⟩ : ∃ a, (gaL x (mk d k)).2 = a := ⟨_, rfl⟩
      rw [ho, ha] at hgs
      rw [ha] at ha5 HZ
      have HOA := Lib.hid (And.intro ho ha)
      rw [ho, ha]
      have HZ2 := Lib.hid (show wrap64 (y * 2 ^ a) = z by rw [HZ.out]; exact hwr)
      have hwz := HZ2.out
      have hk63 : (k : Int) ≤ 9223372036854775807 := by omega
      by_cases hb : bits BinOp.and IntKind.i64 (d / 2 ^ k) 1 = 1
      · have hnx : Hid (gaL x (mk d (k + 1)) = (bits BinOp.or IntKind.i64 o z, a + 1)) := by show _ = _; rw [hst.out, if_pos (by unfold bit; exact decide_eq_true hb), hga.out, hgs.out]
        clear hcase h2 hl hwr hz ho ha
        go_wp2_with fail
        go_roundw
        case rel => exact ⟨⟨k + 1, by omega, by go_num, by rw [hnx.out], by rw [hnx.out]; go_num⟩, trivial⟩
        case measure => simp [intOf]; omega
      · have hnx : Hid (gaL x (mk d (k + 1)) = gaL x (mk d k)) := by show _ = _; rw [hst.out, if_neg (by unfold bit; simp [hb]), List.append_nil]
        have hbb : (bits BinOp.and IntKind.i64 (d / 2 ^ k) 1 == 1) = false := by simpa using hb
        clear hcase h2 hl hwr hz ho ha hwz hb
        go_wp2_with fail
        go_roundw
        case rel => exact ⟨⟨k + 1, by omega, by go_num, by rw [hnx.out, HOA.out.1], by rw [hnx.out, HOA.out.2]⟩, trivial⟩
        case measure => simp [intOf]; omega
    · obtain rfl : k = 5 := by omega
      have HH := Lib.hid HRR.out.symm
      clear hl h2
      go_wp2_with fail
      go_ret
      exact ⟨by rw [HH.out]; rfl, rfl⟩

/-- While a number is numbered anew: what stands. -/
structure Na (w W : World) (x o : Int) (a : Nat) : Prop where
  c0 : Boxed W w.heap.size 2 (.int .i64 x)
  c1 : Boxed W (w.heap.size + 1) 2 (.int .i64 o)
  c2 : Boxed W (w.heap.size + 1 + 1) 3 (.int .i64 a)
  low : Below w.heap.size w W
theorem Na.own {w : World} {x : Int} {β : Type} {B : Nat} (F : β → Int × Nat) (hB : w.heap.size ≤ B) : OwnFrom B (fun (s : β) W => Na w W x (F s).1 (F s).2) := by
  intro s W W' row h hg hr
  have k := KC.of hg (fun r e => (hr r e).2)
  exact ⟨k.same _ _ _ _ h.c0, k.same _ _ _ _ h.c1, k.same _ _ _ _ h.c2, ownFrom_below (β := Unit) (Nat.le_refl _) hB () W W' row h.low hg hr⟩
theorem Na.step {w W : World} {x o : Int} {a : Nat} (h : Na w W x o a) (o' : Int) : Na w ((W.setCell ⟨w.heap.size + 1, 0, none⟩ (.int .i64 o')).setCell ⟨w.heap.size + 1 + 1, 0, none⟩ (.int .i64 ((a : Int) + 1))).drew x o' (a + 1) := by
  have h1 : Below w.heap.size w (W.setCell ⟨w.heap.size + 1, 0, none⟩ (.int .i64 o')) := h.low.setCell (by show w.heap.size ≤ w.heap.size + 1; omega) _
  have b0 : Boxed (W.setCell ⟨w.heap.size + 1, 0, none⟩ (.int .i64 o')) w.heap.size 2 (.int .i64 x) := h.c0.other (by omega) _
  have b1 : Boxed (W.setCell ⟨w.heap.size + 1, 0, none⟩ (.int .i64 o')) (w.heap.size + 1) 2 (.int .i64 o') := h.c1.set _
  have b2 : Boxed (W.setCell ⟨w.heap.size + 1, 0, none⟩ (.int .i64 o')) (w.heap.size + 1 + 1) 3 (.int .i64 a) := h.c2.other (by omega) _
  have a0 : Boxed ((W.setCell ⟨w.heap.size + 1, 0, none⟩ (.int .i64 o')).setCell ⟨w.heap.size + 1 + 1, 0, none⟩ (.int .i64 ((a : Int) + 1))) w.heap.size 2 (.int .i64 x) := b0.other (by omega) _
  have a1 : Boxed ((W.setCell ⟨w.heap.size + 1, 0, none⟩ (.int .i64 o')).setCell ⟨w.heap.size + 1 + 1, 0, none⟩ (.int .i64 ((a : Int) + 1))) (w.heap.size + 1) 2 (.int .i64 o') := b1.other (by omega) _
  have a2 : Boxed ((W.setCell ⟨w.heap.size + 1, 0, none⟩ (.int .i64 o')).setCell ⟨w.heap.size + 1 + 1, 0, none⟩ (.int .i64 ((a : Int) + 1))) (w.heap.size + 1 + 1) 3 (.int .i64 ((a + 1 : Nat) : Int)) := b2.set _
  exact ⟨a0, a1, a2, (h1.setCell (by show w.heap.size ≤ w.heap.size + 1 + 1; omega) _).drew⟩

set_option maxRecDepth 100000 in
set_option maxHeartbeats 1000000 in
theorem numberedAnew_in (n : Nat) (hn5 : n ≤ 5) (x d : Int) (w : World) (hd0 : 0 ≤ d) (hd1 : d < 2 ^ n) :
    CallsIn Fence.wide 8 Try.prog 79 #[.int .i64 x, .int .i64 d] w fun e w' => e = .returned (.int .i64 (gaI x d)) ∧ Below w.heap.size w w' := by
  have hmx : Try.prog.follows .mixedOrders = true := by kernel_rfl
  have HGA : Hid (gaI x d = (gaL x ((memTo n d n).map Fin.val)).1) := by
    show _ = _
    unfold gaI
    rw [mk_mem n d n (Nat.le_refl _), show mk d 5 = mk d n from by have := mk_high hd0 hd1 (5 - n); rwa [show n + (5 - n) = 5 by omega] at this]
  have HML := Lib.hid (memTo_length n d n)
  obtain ⟨R, hR⟩ : ∃ R, R = gaI x d := ⟨_, rfl⟩
  rw [← hR] at HGA ⊢
  clear hR
  refine callsIn_of_wp_marks Try.func79 rfl trivial ?_ rfl
  simp only [Try.ntmps79, List.size_toArray, List.length_cons, List.length_nil, Nat.reduceAdd, Nat.reduceSub, Array.replicate_succ, Array.replicate_zero, List.push_toArray, List.append_toArray, List.nil_append, List.cons_append]
  gi_wp2_with fail
  refine ⟨trivial, ?_⟩
  gi_at_call 65
  refine (membersOf_in d _).mono ?_
  rintro e w3 ⟨rfl, rfl⟩
  gi_wp2_with fail
  obtain ⟨W0, hW0⟩ : ∃ W0, W0 = ((((w.alloc (.cells #[.int .i64 x] 2)).alloc (.cells #[.int .i64 0] 2)).alloc (.cells #[.int .i64 0] 3)).alloc (.cells #[.int .i64 d] 2)) := ⟨_, rfl⟩
  have hN0 : Na w W0 x (gaL x []).1 (gaL x []).2 := by
    rw [hW0]
    have e0 : Boxed (((w.alloc (.cells #[.int .i64 x] 2)).alloc (.cells #[.int .i64 0] 2))) (w.heap.size + 1) 2 (.int .i64 0) := by
      have := Boxed.new (w.alloc (.cells #[.int .i64 x] 2)) 2 (.int .i64 0)
      rwa [World.size_alloc] at this
    have e1 : Boxed (((w.alloc (.cells #[.int .i64 x] 2)).alloc (.cells #[.int .i64 0] 2)).alloc (.cells #[.int .i64 0] 3)) (w.heap.size + 1 + 1) 3 (.int .i64 0) := by
      have := Boxed.new ((w.alloc (.cells #[.int .i64 x] 2)).alloc (.cells #[.int .i64 0] 2)) 3 (.int .i64 0)
      rwa [World.size_alloc, World.size_alloc] at this
    exact ⟨(((Boxed.new w _ _).alloc _).alloc _).alloc _, (e0.alloc _).alloc _, e1.alloc _, by (repeat' (first | (with_reducible exact Below.refl _ _) | (with_reducible assumption) | (with_reducible refine Below.alloc ?_ ?_ _) | (with_reducible refine Below.drew ?_) | (with_reducible refine below_drewN ?_ _) | (with_reducible refine Below.setCell ?_ ?_ _) | (with_reducible refine Below.trans ?_ (Below.mono (by with_reducible assumption) ?_)) | (with_reducible exact Below.size (by with_reducible assumption)) | go_size))⟩
  have hs : W0.cell? ⟨w.heap.size + 1 + 1 + 1, 0, none⟩ = some (.int .i64 d) := by
    rw [hW0]
    have := Boxed.new (((w.alloc (.cells #[.int .i64 x] 2)).alloc (.cells #[.int .i64 0] 2)).alloc (.cells #[.int .i64 0] 3)) 2 (.int .i64 d)
    rw [World.size_alloc, World.size_alloc, World.size_alloc] at this
    exact this.cell
  have hz0 : W0.heap.size = w.heap.size + 1 + 1 + 1 + 1 := by rw [hW0]; simp
  rw [← hW0]
  clear hW0
  refine wpIn_rangeFunc_ownF (α := Fin n) rfl (by omega) (gf := 90) (lb := #[.pointer (some ⟨w.heap.size + 1 + 1 + 1, 0, none⟩)]) rfl trivial (enters_of Try.func90 (by kernel_rfl) rfl)
    (members_stops n hn5 d hd0 hd1 (w.heap.size + 1 + 1 + 1) W0 (by omega) hs) (fun h k => KB.trans h k) (KB.put (by omega)) (Below.refl _ _) (fun _ => rfl)
    (fun (pre : List (Fin n)) W => Na w W x (gaL x (pre.map Fin.val)).1 (gaL x (pre.map Fin.val)).2)
    (fun _ _ _ => False)
    (Na.own (fun (pre : List (Fin n)) => gaL x (pre.map Fin.val)) (by omega))
    (fun _ _ _ _ _ h _ _ => h)
    hN0 ?a1 ?assign ?body ?done ?stop
  case assign =>
    intro l y W K hK
    gi_wp2
    exact hK
  case body =>
    rintro l pre y W hN hlt
    obtain ⟨i, hi⟩ := y
    have c0 := hN.c0.cell
    have c1 := hN.c1.cell
    have c2 := hN.c2.cell
    have z1 := hN.c1.frozen
    have z2 := hN.c2.frozen
    have hlz := hN.c2.lt
    have hsn : Hid (gaL x ((pre ++ [(⟨i, hi⟩ : Fin n)]).map Fin.val) = gaS x (gaL x (pre.map Fin.val)) i) := by show _ = _; rw [List.map_append]; exact gaL_snoc x _ i
    have hlen := gaL_snd x (pre.map Fin.val)
    rw [List.length_map] at hlen
    have hcase := and1_cases (x / 2 ^ i)
    obtain ⟨v, hv⟩ : ∃ v, bits BinOp.and IntKind.i64 (x / 2 ^ i) 1 = v := ⟨_, rfl⟩
    have hgs : Hid (gaS x (gaL x (pre.map Fin.val)) i = (bits BinOp.or IntKind.i64 (gaL x (pre.map Fin.val)).1 (v * 2 ^ (gaL x (pre.map Fin.val)).2), (gaL x (pre.map Fin.val)).2 + 1)) := by show _ = _; unfold gaS; rw [hv]
    rw [hv] at hcase
    obtain ⟨o, ho⟩ : ∃ o, (gaL x (pre.map Fin.val)).1 = o := ⟨_, rfl⟩
    obtain ⟨a, ha⟩ : ∃ a, (gaL x (pre.map Fin.val)).2 = a := ⟨_, rfl⟩
    rw [ho, ha] at hgs hN
    rw [ho] at c1
    rw [ha] at c2 hlen
    have ha5 : a ≤ 5 := by omega
    have hwr := wrap_one hcase ha5
    obtain ⟨z, hz⟩ : ∃ z, v * 2 ^ a = z := ⟨_, rfl⟩
    rw [hz] at hgs hwr
    have HZ2 := Lib.hid (show wrap64 (v * 2 ^ a) = z by rw [hz]; exact hwr)
    have HN := Lib.hid (hN.step (bits BinOp.or IntKind.i64 o z))
    have hko : Hid (KeepsOthers W (((W.setCell ⟨w.heap.size + 1, 0, none⟩ (.int .i64 (bits BinOp.or IntKind.i64 o z))).setCell ⟨w.heap.size + 1 + 1, 0, none⟩ (.int .i64 ((a : Int) + 1))).drew)) := ((KeepsOthers.setCell W _ _).trans (KeepsOthers.setCell _ _ _)).trans (KeepsOthers.drew _)
    have hkb : Hid (KB (w.heap.size + 1 + 1 + 1) W (((W.setCell ⟨w.heap.size + 1, 0, none⟩ (.int .i64 (bits BinOp.or IntKind.i64 o z))).setCell ⟨w.heap.size + 1 + 1, 0, none⟩ (.int .i64 ((a : Int) + 1))).drew)) :=
      (Below.heap_setCell _ _ _ _ (by show w.heap.size + 1 + 1 + 1 ≠ w.heap.size + 1 + 1; omega)).trans (Below.heap_setCell W _ _ _ (by show w.heap.size + 1 + 1 + 1 ≠ w.heap.size + 1; omega))
    have hwz := HZ2.out
    have hi5 : i ≤ 5 := by omega
    have HNX : Hid (gaL x ((pre ++ [(⟨i, hi⟩ : Fin n)]).map Fin.val) = (bits BinOp.or IntKind.i64 o z, a + 1)) := by show _ = _; rw [hsn.out, hgs.out]
    clear hN hcase hz hwr ho ha hlen
    gi_wp2
    refine PR.wpIn_region_still_tail 8 hmx (by kernel_rfl) (by kernel_rfl) ?_
    simp only [List.take_succ_cons, List.take_zero, List.drop_succ_cons, List.drop_zero]
    repeat still_step
    refine wpStill_nil ?_
    gi_wp2
    exact ⟨hko.out, hkb.out, by show Na w _ x (gaL x ((pre ++ [(⟨i, hi⟩ : Fin n)]).map Fin.val)).1 (gaL x ((pre ++ [(⟨i, hi⟩ : Fin n)]).map Fin.val)).2; rw [HNX.out]; exact HN.out⟩
  case done =>
    rintro D xs W hD rfl hN hK
    have c1 := hN.c1.cell
    have hbw : Below w.heap.size W (W.putObj D (.deferred none)) := belowK_b (w := w) (Nat.le_refl _) W D _ _ (by omega) hK rfl rfl
    have HB := Lib.hid (hN.low.trans hbw)
    rw [← HGA.out] at c1
    clear hN hbw
    gi_wp2
    refine ⟨by simp, .inl ⟨_, _, rfl, run_takeDeferred hK, ?_⟩⟩
    refine ⟨.int .i64 R, by simp [results, Try.results79, go_sem], ?_⟩
    exact ⟨rfl, HB.out⟩
  case stop =>
    rintro D c pre W _ _ h _
    exact h.elim
end Go.Proofs.Ytlccdnpicfmeaaa.PW
