/-
  Walks: a step by a rule, in the model.
  Walks: a run by a rule, in the model.
-/
import Derived.Test.YtopokicejgjcoaaDoorUStep
namespace Go.Proofs.YtopokicejgjcoaaDoor.PW
open Go.RowKit Go.Proofs.YtopokicejgjcoaaDoor
open Go.Proofs.YtopokicejgjcoaaDoor.PM Go.Proofs.YtopokicejgjcoaaDoor.PX

theorem ul01Less_any (an ad bn bd : Int) (w : World) (ha : FM.isF an ad = true) (hb : FM.isF bn bd = true) :
    Calls Tryd.prog 110 #[.agg #[.int .i64 an, .int .i64 ad], .agg #[.int .i64 bn, .int .i64 bd]] w fun e w' => e = .returned (.bool (decide (an * bd < bn * ad))) ∧ Below w.heap.size w w' := by
  obtain ⟨a1, a2, a3, a4, _⟩ := FM.isF_yes ha
  obtain ⟨b1, b2, b3, b4, _⟩ := FM.isF_yes hb
  have p1 := uprod_bd a1 a2 (b := bd) (by omega) b4
  have p2 := uprod_bd b1 b2 (b := ad) (by omega) a4
  clear ha hb
  go_enter Tryd.func110, Tryd.ntmps110
  go_wp2
  all_goals (go_ret; refine ⟨ret_bool (by simp; try omega), ?_⟩)
  all_goals (repeat' (first | (with_reducible exact Below.refl _ _) | (with_reducible assumption) | (with_reducible refine Below.alloc ?_ ?_ _) | (with_reducible refine Below.drew ?_) | (with_reducible refine below_drewN ?_ _) | (with_reducible refine Below.setCell ?_ ?_ _) | (with_reducible refine Below.trans ?_ (Below.mono (by with_reducible assumption) ?_)) | (with_reducible exact Below.size (by with_reducible assumption)) | go_size))
theorem l08Less_any (x y : Int) (w : World) :
    Calls Tryd.prog 109 #[.agg #[.int .i64 x, .int .i64 y]] w fun e w' => e = .returned (.bool (decide (x < 0))) ∧ Below w.heap.size w w' := by
  go_enter Tryd.func109, Tryd.ntmps109
  go_wp2
  go_ret
  refine ⟨ret_bool (by simp), ?_⟩
  (repeat' (first | (with_reducible exact Below.refl _ _) | (with_reducible assumption) | (with_reducible refine Below.alloc ?_ ?_ _) | (with_reducible refine Below.drew ?_) | (with_reducible refine below_drewN ?_ _) | (with_reducible refine Below.setCell ?_ ?_ _) | (with_reducible refine Below.trans ?_ (Below.mono (by with_reducible assumption) ?_)) | (with_reducible exact Below.size (by with_reducible assumption)) | go_size))

/-- What the model keeps while it looks at a point: the first and the last number below 0, the least one, and all. -/
def StV (xs : List (Int × Int)) (k : Nat) (f l t s : Value) : Prop :=
  (negM xs k = 0 ∧ f = .int .i64 (-1) ∧ l = .int .i64 (-1) ∧ t = .int .i64 (-1) ∧ s = .int .i64 0) ∨
  (negM xs k ≠ 0 ∧ f = .int .i64 (loB (negM xs k) : Nat) ∧ l = .int .i64 (hiB (negM xs k) : Nat) ∧ t = .int .i64 (lsI xs k : Nat) ∧ s = .int .i64 (negM xs k : Nat))
theorem StV.zero (xs : List (Int × Int)) : StV xs 0 (.int .i64 (-1)) (.int .i64 (-1)) (.int .i64 (-1)) (.int .i64 0) := .inl ⟨rfl, rfl, rfl, rfl, rfl⟩
theorem StV.skip {xs : List (Int × Int)} {k : Nat} {f l t s : Value} (h : StV xs k f l t s) (hp : ∀ j, j < k + 1 → 0 < (xs.getD j (0, 0)).2) (hn : ¬ (xs.getD k (0, 0)).1 < 0) : StV xs (k + 1) f l t s := by
  rcases h with ⟨h0, h1, h2, h3, h4⟩ | ⟨h0, h1, h2, h3, h4⟩
  · exact .inl ⟨by rw [negM_no hn]; exact h0, h1, h2, h3, h4⟩
  · exact .inr ⟨by rw [negM_no hn]; exact h0, by rw [negM_no hn]; exact h1, by rw [negM_no hn]; exact h2, by rw [lsI_past hp h0 hn]; exact h3, by rw [negM_no hn]; exact h4⟩
theorem StV.first {xs : List (Int × Int)} {k : Nat} (hk : k < 5) (h0 : negM xs k = 0) (hp : ∀ j, j < k + 1 → 0 < (xs.getD j (0, 0)).2) (hn : (xs.getD k (0, 0)).1 < 0) : StV xs (k + 1) (.int .i64 k) (.int .i64 k) (.int .i64 k) (.int .i64 ((2 : Int) ^ k)) := by
  obtain ⟨p1, p2, p3⟩ := lohi_step hk (negM_lt xs k)
  rw [if_pos h0] at p3
  refine .inr ⟨by rw [negM_yes hn]; exact p1, by rw [negM_yes hn, p3], by rw [negM_yes hn, p2], by rw [lsI_first hp h0 hn], ?_⟩
  rw [negM_yes hn, h0, Nat.zero_or]
  norm_cast
theorem StV.more {xs : List (Int × Int)} {k : Nat} (hk : k < 5) (h0 : negM xs k ≠ 0) (hn : (xs.getD k (0, 0)).1 < 0) : StV xs (k + 1) (.int .i64 (loB (negM xs k) : Nat)) (.int .i64 k) (.int .i64 (lsI xs (k + 1) : Nat)) (.int .i64 ((negM xs k ||| 2 ^ k : Nat) : Int)) := by
  obtain ⟨p1, p2, p3⟩ := lohi_step hk (negM_lt xs k)
  rw [if_neg h0] at p3
  exact .inr ⟨by rw [negM_yes hn]; exact p1, by rw [negM_yes hn, p3], by rw [negM_yes hn, p2], rfl, by rw [negM_yes hn]⟩

theorem l08Step_zero (m q : Value) (M : List (List Int)) (Q : List Int) (s r : Int) (w : World) (h1 : PM.Rows w m M) (h2 : Ints w q Q) (hp : isPB M Q = true) (hD : dt M.length (colS M s) = 0) :
    Calls Tryd.prog 78 #[.agg #[m, q], .int .i64 s, .int .i64 r] w fun e w' => e = .returned (.tuple #[.int .i64 s, .bool false, .bool false]) ∧ Below w.heap.size w w' := by
  have g1 := fun (w' : World) (h : Below w.heap.size w w') => h1.below h
  have g2 := fun (w' : World) (h : Below w.heap.size w w') => h2.below h
  obtain ⟨a1, c1, rfl, _⟩ := h1
  obtain ⟨a2, c2, rfl, _⟩ := h2
  have HPZ := Lib.hid (fun (w' : World) (hb : Below w.heap.size w w') => l01Point_zero _ _ M Q s w' (g1 _ hb) (g2 _ hb) hp hD)
  clear hp hD
  go_enter Tryd.func78, Tryd.ntmps78
  go_wp2_with fail
  refine (HPZ.out _ (by (repeat' (first | (with_reducible exact Below.refl _ _) | (with_reducible assumption) | (with_reducible refine Below.alloc ?_ ?_ _) | (with_reducible refine Below.drew ?_) | (with_reducible refine below_drewN ?_ _) | (with_reducible refine Below.setCell ?_ ?_ _) | (with_reducible refine Below.trans ?_ (Below.mono (by with_reducible assumption) ?_)) | (with_reducible exact Below.size (by with_reducible assumption)) | go_size)))).mono ?_; rintro e w1 ⟨rfl, hb1⟩; obtain ⟨hc_hb1, hf_hb1⟩ := bcell hb1; obtain ⟨hcA_hb1, hfA_hb1⟩ := bcellG (W0 := w) hb1 (by (repeat' (first | (with_reducible exact Below.refl _ _) | (with_reducible assumption) | (with_reducible refine Below.alloc ?_ ?_ _) | (with_reducible refine Below.drew ?_) | (with_reducible refine below_drewN ?_ _) | (with_reducible refine Below.setCell ?_ ?_ _) | (with_reducible refine Below.trans ?_ (Below.mono (by with_reducible assumption) ?_)) | (with_reducible exact Below.size (by with_reducible assumption)) | go_size))); have hz_hb1 := hb1.size; (try simp at hz_hb1); (try simp only [Nat.add_one_le_iff] at hz_hb1); have hz0_hb1 : w.heap.size < w1.heap.size := (by omega)
  go_wp2_with fail
  go_ret3
  exact ⟨rfl, by (repeat' (first | (with_reducible exact Below.refl _ _) | (with_reducible assumption) | (with_reducible refine Below.alloc ?_ ?_ _) | (with_reducible refine Below.drew ?_) | (with_reducible refine below_drewN ?_ _) | (with_reducible refine Below.setCell ?_ ?_ _) | (with_reducible refine Below.trans ?_ (Below.mono (by with_reducible assumption) ?_)) | (with_reducible exact Below.size (by with_reducible assumption)) | go_size))⟩

set_option maxHeartbeats 2000000 in
theorem l08Step_any (m q : Value) (M : List (List Int)) (Q : List Int) (s r : Int) (w : World) (h1 : PM.Rows w m M) (h2 : Ints w q Q) (hp : isPB M Q = true) (hr0 : 0 ≤ r) (hr1 : r ≤ 3) (hD : dt M.length (colS M s) ≠ 0) (go : Bool) (S : Int) (hgo : nonneg (ptL M Q s) = !go) (hS : S = if go = true then stpS M Q r s else s) :
    Calls Tryd.prog 78 #[.agg #[m, q], .int .i64 s, .int .i64 r] w fun e w' => e = .returned (.tuple #[.int .i64 S, .bool go, .bool true]) ∧ Below w.heap.size w w' := by
  have g1 := fun (w' : World) (h : Below w.heap.size w w') => h1.below h
  have g2 := fun (w' : World) (h : Below w.heap.size w w') => h2.below h
  obtain ⟨a1, c1, rfl, _⟩ := h1
  obtain ⟨a2, c2, rfl, _⟩ := h2
  have f1 := (isPB_facts hp).1
  have f2 := (isPB_facts hp).2.1
  have HPK := Lib.hid (fun (w' : World) (hb : Below w.heap.size w w') => l01Point_ok _ _ M Q s w' (g1 _ hb) (g2 _ hb) hp hD)
  obtain ⟨n, hn⟩ : ∃ n, n = M.length := ⟨_, rfl⟩
  have hnn := negM_nonneg (M := M) (Q := Q) (s := s)
  have hst : stpS M Q r s = bits BinOp.xor IntKind.i64 s ((exM r (ptL M Q s) n : Nat) : Int) := by rw [hn]; rfl
  have hF := fun j (hj : j < n) => ptL_isF hp hD j (by omega)
  have HLL := Lib.hid (show n = (ptL M Q s).length by rw [ptL_length, hn])
  rw [← hn] at HPK f1 f2 g1 hnn ⊢
  generalize ptL M Q s = xs at *
  have HF := Lib.hid hF
  have HS := Lib.hid (And.intro hS hst)
  have HN := Lib.hid (And.intro hgo hnn)
  have HP := Lib.hid (fun j (hj : j < n) => show 0 < (xs.getD j (0, 0)).2 by have := FM.isF_yes (hF j hj); omega)
  clear hp hD hn hnn hst hF hS hgo
  go_enter Tryd.func78, Tryd.ntmps78
  go_wp2_with fail
  refine (HPK.out _ (by (repeat' (first | (with_reducible exact Below.refl _ _) | (with_reducible assumption) | (with_reducible refine Below.alloc ?_ ?_ _) | (with_reducible refine Below.drew ?_) | (with_reducible refine below_drewN ?_ _) | (with_reducible refine Below.setCell ?_ ?_ _) | (with_reducible refine Below.trans ?_ (Below.mono (by with_reducible assumption) ?_)) | (with_reducible exact Below.size (by with_reducible assumption)) | go_size)))).mono ?_; rintro e w1 ⟨g, c, rfl, hf1, hb1⟩; obtain ⟨hc_hb1, hf_hb1⟩ := bcell hb1; obtain ⟨hcA_hb1, hfA_hb1⟩ := bcellG (W0 := w) hb1 (by (repeat' (first | (with_reducible exact Below.refl _ _) | (with_reducible assumption) | (with_reducible refine Below.alloc ?_ ?_ _) | (with_reducible refine Below.drew ?_) | (with_reducible refine below_drewN ?_ _) | (with_reducible refine Below.setCell ?_ ?_ _) | (with_reducible refine Below.trans ?_ (Below.mono (by with_reducible assumption) ?_)) | (with_reducible exact Below.size (by with_reducible assumption)) | go_size))); have hz_hb1 := hb1.size; (try simp at hz_hb1); (try simp only [Nat.add_one_le_iff] at hz_hb1); have hz0_hb1 : w.heap.size < w1.heap.size := (by omega)
  have hw1 : Below w.heap.size w w1 := by (repeat' (first | (with_reducible exact Below.refl _ _) | (with_reducible assumption) | (with_reducible refine Below.alloc ?_ ?_ _) | (with_reducible refine Below.drew ?_) | (with_reducible refine below_drewN ?_ _) | (with_reducible refine Below.setCell ?_ ?_ _) | (with_reducible refine Below.trans ?_ (Below.mono (by with_reducible assumption) ?_)) | (with_reducible exact Below.size (by with_reducible assumption)) | go_size))
  have hgl : g < w1.heap.size := by obtain ⟨_, _, hv, _, hl, _⟩ := hf1; simp at hv; omega
  have HO := Lib.hid hf1.own
  clear hf1 hc_hb1 hf_hb1 hcA_hb1 hfA_hb1 hz_hb1 hz0_hb1 hb1
  go_wp2_with fail
  go_loopw [11, 12, 13, 14, 15] (fun f l t a i wr => ∃ k : Nat, k ≤ n ∧ i = .int .i64 k ∧ StV xs k f l t a ∧ Below w1.heap.size w1 wr) (fun _ _ _ _ i _ => n - (intOf i).toNat)
  case atStart => exact ⟨0, Nat.zero_le _, rfl, StV.zero xs, Below.refl _ _⟩
  case round =>
    obtain ⟨k, hk, rfl, hV, hB⟩ := hrel
    by_cases hlt : k < n
    · have ho := HO.out.below hB hgl
      have c0 := ho.cell0 HLL.out hlt
      have c1 := ho.cell1 HLL.out hlt
      have HB := Lib.hid hB
      have hx := HF.out k hlt
      have hk5 : k < 5 := by omega
      have hps : ∀ j, j < k + 1 → 0 < (xs.getD j (0, 0)).2 := fun j hj => HP.out j (by omega)
      have hgr : g < wr.heap.size := Nat.lt_of_lt_of_le hgl hB.size
      have hN := negM_lt xs k
      have hp0 := pow_le_32 (n := k) (by omega)
      have hp1 := pow_le_32 (n := k + 1) (by omega)
      have h2k : (2 : Nat) ^ k < 2 ^ (k + 1) := Nat.pow_lt_pow_right (by decide) (by omega)
      have hor := ob_nat (negM xs k) (2 ^ k) (by omega) (by omega)
      have hsh : ((2 ^ k : Nat) : Int) = (2 : Int) ^ k := by norm_cast
      rw [hsh] at hor
      have hpw : wrap64 ((2 : Int) ^ k) = (2 : Int) ^ k := by rw [← hsh]; unfold wrap64; omega
      have hskip := fun h => StV.skip hV hps h
      have HSK := Lib.hid hskip
      have hk0 : (0 : Int) ≤ (k : Int) := by omega
      by_cases hneg : (xs.getD k (0, 0)).1 < 0
      case neg =>
        have HL := Lib.hid (show decide ((xs.getD k (0, 0)).1 < 0) = false from decide_eq_false hneg)
        have HV := Lib.hid (hskip hneg)
        generalize (xs.getD k (0, 0)).1 = x at *
        generalize (xs.getD k (0, 0)).2 = y at *
        clear hV hskip hor hsh hpw ho hB hx hps hN hp0 hp1 h2k hneg HSK
        go_wp2_with fail
        refine (l08Less_any x y _).mono ?_; rw [HL.out]; rintro e w3 ⟨rfl, hb3⟩
        go_wp2_with fail
        go_roundw
        case rel => exact ⟨k + 1, by omega, by go_num, HV.out, HB.out.trans (hb3.mono HB.out.size)⟩
        case measure => simp [intOf]; omega
      case pos =>
        have HL := Lib.hid (show decide ((xs.getD k (0, 0)).1 < 0) = true from decide_eq_true hneg)
        have HNEG := Lib.hid hneg
        rcases hV with ⟨h0, rfl, rfl, rfl, rfl⟩ | ⟨h0, rfl, rfl, rfl, rfl⟩
        · have HV := Lib.hid (StV.first hk5 h0 hps hneg)
          rw [h0, Nat.zero_or, hsh] at hor
          have hor0 : bits BinOp.or IntKind.i64 0 ((2 : Int) ^ k) = (2 : Int) ^ k := hor
          have HOR := Lib.hid hor0
          generalize (xs.getD k (0, 0)).1 = x at *
          generalize (xs.getD k (0, 0)).2 = y at *
          clear hskip hor hor0 hsh ho hB hx hps hN hp0 hp1 h2k hneg HSK HNEG h0
          go_wp2_with fail
          refine (l08Less_any x y _).mono ?_; rw [HL.out]; rintro e w3 ⟨rfl, hb3⟩
          go_wp2_with fail
          go_quiet (fail)
          go_wp2_with fail
          rw [HOR.out]
          go_roundw
          case rel => exact ⟨k + 1, by omega, by go_num, HV.out, HB.out.trans ((below_drewN hb3 _).mono HB.out.size)⟩
          case measure => simp [intOf]; omega
        · have HV := Lib.hid (StV.more hk5 h0 hneg)
          have HOR := Lib.hid hor
          have hkp : 0 < k := by
            rcases Nat.eq_zero_or_pos k with e | e
            · subst e; exact absurd rfl h0
            · exact e
          have hls := lsI_lt xs k hkp
          have d0 := ho.cell0 HLL.out (show lsI xs k < n by omega)
          have d1 := ho.cell1 HLL.out (show lsI xs k < n by omega)
          have hz := HF.out (lsI xs k) (by omega)
          have hyes := lsI_yes (xs := xs) (k := k) (by omega)
          have hno := lsI_no (xs := xs) (k := k) (by omega)
          unfold lessF at hyes hno
          obtain ⟨T, hT⟩ : ∃ T, T = lsI xs (k + 1) := ⟨_, rfl⟩
          rw [← hT] at hyes hno HV
          generalize (xs.getD (lsI xs k) (0, 0)).1 = a at *
          generalize (xs.getD (lsI xs k) (0, 0)).2 = b at *
          generalize lsI xs k = ls at *
          generalize (xs.getD k (0, 0)).1 = x at *
          generalize (xs.getD k (0, 0)).2 = y at *
          generalize loB (negM xs k) = lo at *
          generalize hiB (negM xs k) = hi at *
          have HLS := Lib.hid (fun w => ul01Less_any x y a b w hx hz)
          have HY := Lib.hid hyes
          have HNO := Lib.hid hno
          have r0 : ∀ w', Below wr.heap.size wr w' → w'.cell? ⟨g, k * 2, none⟩ = some (.int .i64 x) := fun w' h => (h.cell (p := ⟨g, k * 2, none⟩) hgr).trans c0
          have r1 : ∀ w', Below wr.heap.size wr w' → w'.cell? ⟨g, k * 2 + 1, none⟩ = some (.int .i64 y) := fun w' h => (h.cell (p := ⟨g, k * 2 + 1, none⟩) hgr).trans c1
          have r2 : ∀ w', Below wr.heap.size wr w' → w'.cell? ⟨g, ls * 2, none⟩ = some (.int .i64 a) := fun w' h => (h.cell (p := ⟨g, ls * 2, none⟩) hgr).trans d0
          have r3 : ∀ w', Below wr.heap.size wr w' → w'.cell? ⟨g, ls * 2 + 1, none⟩ = some (.int .i64 b) := fun w' h => (h.cell (p := ⟨g, ls * 2 + 1, none⟩) hgr).trans d1
          have hlo : ¬ ((lo : Nat) : Int) < 0 := by omega
          have hls0 : ¬ ((ls : Nat) : Int) < 0 := by omega
          have hls1 : (0 : Int) ≤ ((ls : Nat) : Int) := by omega
          have hls2 : ((ls : Nat) : Int) < n := by omega
          have hkn : (k : Int) < n := by omega
          clear hskip hor hsh ho hB hx hz hps hN hp0 hp1 h2k hneg HSK HNEG h0 hyes hno hT hkp
          go_wp2_with fail
          refine (l08Less_any x y _).mono ?_; rw [HL.out]; rintro e w3 ⟨rfl, hb3⟩
          have hz3 := hb3.size
          by_cases hc : x * b < a * y
          · have HD := Lib.hid (show decide (x * b < a * y) = true from decide_eq_true hc)
            go_wp2_with fail
            go_region_held3 (fun w' => Below wr.heap.size wr w') ((repeat' (first | (with_reducible exact Below.refl _ _) | (with_reducible assumption) | (with_reducible refine Below.alloc ?_ ?_ _) | (with_reducible refine Below.drew ?_) | (with_reducible refine below_drewN ?_ _) | (with_reducible refine Below.setCell ?_ ?_ _) | (with_reducible refine Below.trans ?_ (Below.mono (by with_reducible assumption) ?_)) | (with_reducible exact Below.size (by with_reducible assumption)) | go_size)))
              (first | (go_at_call 110; refine (HLS.out _).mono ?_; rw [HD.out]; rintro e w8 ⟨rfl, hb8⟩; have hS8 : Below wr.heap.size wr w8 := (by (repeat' (first | (with_reducible exact Below.refl _ _) | (with_reducible assumption) | (with_reducible refine Below.alloc ?_ ?_ _) | (with_reducible refine Below.drew ?_) | (with_reducible refine below_drewN ?_ _) | (with_reducible refine Below.setCell ?_ ?_ _) | (with_reducible refine Below.trans ?_ (Below.mono (by with_reducible assumption) ?_)) | (with_reducible exact Below.size (by with_reducible assumption)) | go_size)))))
            go_wp2_with fail
            rw [HOR.out]
            go_roundw
            case rel => exact ⟨k + 1, by omega, by go_num, by have := HV.out; rw [HY.out hc] at this; exact this, HB.out.trans (hS8.mono HB.out.size)⟩
            case measure => simp [intOf]; omega
          · have HD := Lib.hid (show decide (x * b < a * y) = false from decide_eq_false hc)
            have HN' := Lib.hid (HNO.out (by omega))
            clear hc
            go_wp2_with fail
            go_region_held3 (fun w' => Below wr.heap.size wr w') ((repeat' (first | (with_reducible exact Below.refl _ _) | (with_reducible assumption) | (with_reducible refine Below.alloc ?_ ?_ _) | (with_reducible refine Below.drew ?_) | (with_reducible refine below_drewN ?_ _) | (with_reducible refine Below.setCell ?_ ?_ _) | (with_reducible refine Below.trans ?_ (Below.mono (by with_reducible assumption) ?_)) | (with_reducible exact Below.size (by with_reducible assumption)) | go_size)))
              (first | (go_at_call 110; refine (HLS.out _).mono ?_; rw [HD.out]; rintro e w8 ⟨rfl, hb8⟩; have hS8 : Below wr.heap.size wr w8 := (by (repeat' (first | (with_reducible exact Below.refl _ _) | (with_reducible assumption) | (with_reducible refine Below.alloc ?_ ?_ _) | (with_reducible refine Below.drew ?_) | (with_reducible refine below_drewN ?_ _) | (with_reducible refine Below.setCell ?_ ?_ _) | (with_reducible refine Below.trans ?_ (Below.mono (by with_reducible assumption) ?_)) | (with_reducible exact Below.size (by with_reducible assumption)) | go_size)))))
            go_wp2_with fail
            rw [HOR.out]
            go_roundw
            case rel => exact ⟨k + 1, by omega, by go_num, by have := HV.out; rw [HN'.out] at this; exact this, HB.out.trans (hS8.mono HB.out.size)⟩
            case measure => simp [intOf]; omega
    · obtain rfl : k = n := by omega
      have HB := Lib.hid hB
      rcases hV with ⟨h0, rfl, rfl, rfl, rfl⟩ | ⟨h0, rfl, rfl, rfl, rfl⟩
      · have hgo : go = false := by
          have := HN.out.1
          rw [HN.out.2.1 h0] at this
          cases go
          · rfl
          · cases this
        have hSS : S = s := by rw [HS.out.1, hgo]; simp
        subst hgo hSS
        clear h0 hB
        go_wp2_with fail
        go_ret3
        exact ⟨rfl, hw1.trans (HB.out.mono hw1.size)⟩
      · have hgo : go = true := by
          have := HN.out.1
          cases go
          · exact absurd (HN.out.2.2 this) h0
          · rfl
        have hSS : S = bits BinOp.xor IntKind.i64 s ((exM r xs k : Nat) : Int) := by rw [HS.out.1, hgo, if_pos rfl, HS.out.2]
        obtain ⟨hlo, hhi⟩ := lohi_lt f2 (negM_lt xs k) h0
        have hls := lsI_lt xs k (by omega)
        have e0 : r = 0 → exM r xs k = 2 ^ loB (negM xs k) := fun h => by unfold exM; rw [if_pos h]
        have e1 : r = 1 → exM r xs k = 2 ^ hiB (negM xs k) := fun h => by unfold exM; rw [if_neg (by omega), if_pos h]
        have e2 : r = 2 → exM r xs k = 2 ^ lsI xs k := fun h => by unfold exM; rw [if_neg (by omega), if_neg (by omega), if_pos h]
        have e3 : r = 3 → exM r xs k = negM xs k := fun h => by unfold exM; rw [if_neg (by omega), if_neg (by omega), if_neg (by omega)]
        subst hgo
        generalize exM r xs k = X at *
        generalize loB (negM xs k) = lo at *
        generalize hiB (negM xs k) = hi at *
        generalize lsI xs k = ls at *
        generalize negM xs k = ng at *
        have hlo0 : ¬ ((lo : Nat) : Int) < 0 := by omega
        have HSS := Lib.hid hSS
        clear hSS hB h0 HN HS
        obtain rfl | rfl | rfl | rfl : r = 0 ∨ r = 1 ∨ r = 2 ∨ r = 3 := by omega
        · have HE := Lib.hid (e0 rfl)
          clear e0 e1 e2 e3 hr0 hr1
          obtain rfl | rfl | rfl | rfl | rfl : lo = 0 ∨ lo = 1 ∨ lo = 2 ∨ lo = 3 ∨ lo = 4 := by omega
          all_goals
            go_wp2_with fail
            go_ret3
            exact ⟨by rw [HSS.out, HE.out]; rfl, hw1.trans (HB.out.mono hw1.size)⟩
        · have HE := Lib.hid (e1 rfl)
          clear e0 e1 e2 e3 hr0 hr1
          obtain rfl | rfl | rfl | rfl | rfl : hi = 0 ∨ hi = 1 ∨ hi = 2 ∨ hi = 3 ∨ hi = 4 := by omega
          all_goals
            go_wp2_with fail
            go_ret3
            exact ⟨by rw [HSS.out, HE.out]; rfl, hw1.trans (HB.out.mono hw1.size)⟩
        · have HE := Lib.hid (e2 rfl)
          clear e0 e1 e2 e3 hr0 hr1
          obtain rfl | rfl | rfl | rfl | rfl : ls = 0 ∨ ls = 1 ∨ ls = 2 ∨ ls = 3 ∨ ls = 4 := by omega
          all_goals
            go_wp2_with fail
            go_ret3
            exact ⟨by rw [HSS.out, HE.out]; rfl, hw1.trans (HB.out.mono hw1.size)⟩
        · have HE := Lib.hid (e3 rfl)
          clear e0 e1 e2 e3 hr0 hr1
          go_wp2_with fail
          go_ret3
          exact ⟨by rw [HSS.out, HE.out]; rfl, hw1.trans (HB.out.mono hw1.size)⟩

set_option maxHeartbeats 1000000 in
theorem specStepByRule_any (m q : Value) (M : List (List Int)) (Q : List Int) (s r : Int) (w : World) (h1 : PM.Rows w m M) (h2 : Ints w q Q) :
    Calls Tryd.prog 28 #[.agg #[m, q], .int .i64 s, .int .i64 r] w (OutN w (stepOut M Q s r)) := by
  have g1 := fun (w' : World) (h : Below w.heap.size w w') => h1.below h
  have g2 := fun (w' : World) (h : Below w.heap.size w w') => h2.below h
  obtain ⟨a1, c1, rfl, _⟩ := h1
  obtain ⟨a2, c2, rfl, _⟩ := h2
  rcases ruleCode_cases M Q s r with h | h | ⟨h, hs, hp, hs0, hs1, hr0, hr1⟩
  case' inr.inr =>
    have HC := Lib.hid h
    by_cases hD : dt M.length (colS M s) = 0
    · rw [stepOut_zero h hD]
      have HPZ := Lib.hid (fun (w' : World) (hb : Below w.heap.size w w') => l08Step_zero _ _ M Q s r w' (g1 _ hb) (g2 _ hb) hp hD)
      clear h hp hs0 hs1 hs hD
      go_enter Tryd.func28, Tryd.ntmps28
      go_wp2_with fail
      refine (l08Code_any _ _ M Q s r _ (g1 _ (by (repeat' (first | (with_reducible exact Below.refl _ _) | (with_reducible assumption) | (with_reducible refine Below.alloc ?_ ?_ _) | (with_reducible refine Below.drew ?_) | (with_reducible refine below_drewN ?_ _) | (with_reducible refine Below.setCell ?_ ?_ _) | (with_reducible refine Below.trans ?_ (Below.mono (by with_reducible assumption) ?_)) | (with_reducible exact Below.size (by with_reducible assumption)) | go_size)))) (g2 _ (by (repeat' (first | (with_reducible exact Below.refl _ _) | (with_reducible assumption) | (with_reducible refine Below.alloc ?_ ?_ _) | (with_reducible refine Below.drew ?_) | (with_reducible refine below_drewN ?_ _) | (with_reducible refine Below.setCell ?_ ?_ _) | (with_reducible refine Below.trans ?_ (Below.mono (by with_reducible assumption) ?_)) | (with_reducible exact Below.size (by with_reducible assumption)) | go_size))))).mono ?_; rw [HC.out]; rintro e w1 ⟨rfl, hb1⟩; obtain ⟨hc_hb1, hf_hb1⟩ := bcell hb1; obtain ⟨hcA_hb1, hfA_hb1⟩ := bcellG (W0 := w) hb1 (by (repeat' (first | (with_reducible exact Below.refl _ _) | (with_reducible assumption) | (with_reducible refine Below.alloc ?_ ?_ _) | (with_reducible refine Below.drew ?_) | (with_reducible refine below_drewN ?_ _) | (with_reducible refine Below.setCell ?_ ?_ _) | (with_reducible refine Below.trans ?_ (Below.mono (by with_reducible assumption) ?_)) | (with_reducible exact Below.size (by with_reducible assumption)) | go_size))); have hz_hb1 := hb1.size; (try simp at hz_hb1); (try simp only [Nat.add_one_le_iff] at hz_hb1); have hz0_hb1 : w.heap.size < w1.heap.size := (by omega)
      have hw1 : Below w.heap.size w w1 := by (repeat' (first | (with_reducible exact Below.refl _ _) | (with_reducible assumption) | (with_reducible refine Below.alloc ?_ ?_ _) | (with_reducible refine Below.drew ?_) | (with_reducible refine below_drewN ?_ _) | (with_reducible refine Below.setCell ?_ ?_ _) | (with_reducible refine Below.trans ?_ (Below.mono (by with_reducible assumption) ?_)) | (with_reducible exact Below.size (by with_reducible assumption)) | go_size))
      go_wp2_with fail
      refine (HPZ.out _ hw1).mono ?_; rintro e w2 ⟨rfl, hb2⟩
      go_wp2_with fail
      go_ret2
      exact ⟨rfl, hw1.trans (hb2.mono hw1.size)⟩
    cases hn : nonneg (ptL M Q s)
    case' true =>
      rw [stepOut_end h hD hn]
      have HPK := Lib.hid (fun (w' : World) (hb : Below w.heap.size w w') => l08Step_any _ _ M Q s r w' (g1 _ hb) (g2 _ hb) hp hr0 hr1 hD false s (by rw [hn]; rfl) (by simp))
    case' false =>
      rw [stepOut_ok h hD hn]
      have HPK := Lib.hid (fun (w' : World) (hb : Below w.heap.size w w') => l08Step_any _ _ M Q s r w' (g1 _ hb) (g2 _ hb) hp hr0 hr1 hD true (stpS M Q r s) (by rw [hn]; rfl) (by simp))
      generalize stpS M Q r s = S at *
    all_goals
      clear h hp hs0 hs1 hs hD hn
      go_enter Tryd.func28, Tryd.ntmps28
      go_wp2_with fail
      refine (l08Code_any _ _ M Q s r _ (g1 _ (by (repeat' (first | (with_reducible exact Below.refl _ _) | (with_reducible assumption) | (with_reducible refine Below.alloc ?_ ?_ _) | (with_reducible refine Below.drew ?_) | (with_reducible refine below_drewN ?_ _) | (with_reducible refine Below.setCell ?_ ?_ _) | (with_reducible refine Below.trans ?_ (Below.mono (by with_reducible assumption) ?_)) | (with_reducible exact Below.size (by with_reducible assumption)) | go_size)))) (g2 _ (by (repeat' (first | (with_reducible exact Below.refl _ _) | (with_reducible assumption) | (with_reducible refine Below.alloc ?_ ?_ _) | (with_reducible refine Below.drew ?_) | (with_reducible refine below_drewN ?_ _) | (with_reducible refine Below.setCell ?_ ?_ _) | (with_reducible refine Below.trans ?_ (Below.mono (by with_reducible assumption) ?_)) | (with_reducible exact Below.size (by with_reducible assumption)) | go_size))))).mono ?_; rw [HC.out]; rintro e w1 ⟨rfl, hb1⟩; obtain ⟨hc_hb1, hf_hb1⟩ := bcell hb1; obtain ⟨hcA_hb1, hfA_hb1⟩ := bcellG (W0 := w) hb1 (by (repeat' (first | (with_reducible exact Below.refl _ _) | (with_reducible assumption) | (with_reducible refine Below.alloc ?_ ?_ _) | (with_reducible refine Below.drew ?_) | (with_reducible refine below_drewN ?_ _) | (with_reducible refine Below.setCell ?_ ?_ _) | (with_reducible refine Below.trans ?_ (Below.mono (by with_reducible assumption) ?_)) | (with_reducible exact Below.size (by with_reducible assumption)) | go_size))); have hz_hb1 := hb1.size; (try simp at hz_hb1); (try simp only [Nat.add_one_le_iff] at hz_hb1); have hz0_hb1 : w.heap.size < w1.heap.size := (by omega)
      have hw1 : Below w.heap.size w w1 := by (repeat' (first | (with_reducible exact Below.refl _ _) | (with_reducible assumption) | (with_reducible refine Below.alloc ?_ ?_ _) | (with_reducible refine Below.drew ?_) | (with_reducible refine below_drewN ?_ _) | (with_reducible refine Below.setCell ?_ ?_ _) | (with_reducible refine Below.trans ?_ (Below.mono (by with_reducible assumption) ?_)) | (with_reducible exact Below.size (by with_reducible assumption)) | go_size))
      go_wp2_with fail
      refine (HPK.out _ hw1).mono ?_; rintro e w2 ⟨rfl, hb2⟩
      go_wp2_with fail
      go_ret2
      exact ⟨rfl, hw1.trans (hb2.mono hw1.size)⟩
  all_goals
    rw [stepOut_err h (by decide)]
    have HC := Lib.hid h
    clear h
    go_enter Tryd.func28, Tryd.ntmps28
    go_wp2_with fail
    refine (l08Code_any _ _ M Q s r _ (g1 _ (by (repeat' (first | (with_reducible exact Below.refl _ _) | (with_reducible assumption) | (with_reducible refine Below.alloc ?_ ?_ _) | (with_reducible refine Below.drew ?_) | (with_reducible refine below_drewN ?_ _) | (with_reducible refine Below.setCell ?_ ?_ _) | (with_reducible refine Below.trans ?_ (Below.mono (by with_reducible assumption) ?_)) | (with_reducible exact Below.size (by with_reducible assumption)) | go_size)))) (g2 _ (by (repeat' (first | (with_reducible exact Below.refl _ _) | (with_reducible assumption) | (with_reducible refine Below.alloc ?_ ?_ _) | (with_reducible refine Below.drew ?_) | (with_reducible refine below_drewN ?_ _) | (with_reducible refine Below.setCell ?_ ?_ _) | (with_reducible refine Below.trans ?_ (Below.mono (by with_reducible assumption) ?_)) | (with_reducible exact Below.size (by with_reducible assumption)) | go_size))))).mono ?_; rw [HC.out]; rintro e w1 ⟨rfl, hb1⟩; obtain ⟨hc_hb1, hf_hb1⟩ := bcell hb1; obtain ⟨hcA_hb1, hfA_hb1⟩ := bcellG (W0 := w) hb1 (by (repeat' (first | (with_reducible exact Below.refl _ _) | (with_reducible assumption) | (with_reducible refine Below.alloc ?_ ?_ _) | (with_reducible refine Below.drew ?_) | (with_reducible refine below_drewN ?_ _) | (with_reducible refine Below.setCell ?_ ?_ _) | (with_reducible refine Below.trans ?_ (Below.mono (by with_reducible assumption) ?_)) | (with_reducible exact Below.size (by with_reducible assumption)) | go_size))); have hz_hb1 := hb1.size; (try simp at hz_hb1); (try simp only [Nat.add_one_le_iff] at hz_hb1); have hz0_hb1 : w.heap.size < w1.heap.size := (by omega)
    go_wp2_with fail
    go_ret2
    exact ⟨rfl, by (repeat' (first | (with_reducible exact Below.refl _ _) | (with_reducible assumption) | (with_reducible refine Below.alloc ?_ ?_ _) | (with_reducible refine Below.drew ?_) | (with_reducible refine below_drewN ?_ _) | (with_reducible refine Below.setCell ?_ ?_ _) | (with_reducible refine Below.trans ?_ (Below.mono (by with_reducible assumption) ?_)) | (with_reducible exact Below.size (by with_reducible assumption)) | go_size))⟩
set_option maxHeartbeats 4000000 in
theorem law_FnExactStepByRule (m q : Value) (M : List (List Int)) (Q : List Int) (s r : Int) (w : World) (hG : Tab8 w) (h1 : PM.Rows w m M) (h2 : Ints w q Q) :
    Calls Tryd.prog 6 #[.agg #[m, q], .int .i64 s, .int .i64 r] w fun e w' => e = .returned (.bool true) ∧ Below w.heap.size w w' := by
  have g1 := fun (w' : World) (h : Below w.heap.size w w') => h1.below h
  have gl := fun (w' : World) (h : Below w.heap.size w w') => hG.below h
  clear hG
  have g2 := fun (w' : World) (h : Below w.heap.size w w') => h2.below h
  have I1 := Lib.hid (rows_I64 h1)
  have I2 := Lib.hid (ints_I64 h2)
  obtain ⟨a1, c1, rfl, _⟩ := h1
  obtain ⟨a2, c2, rfl, _⟩ := h2
  by_cases hz : szP M Q 1048576 < 0
  · have e1 := szP_neg hz
    have E1 := Lib.hid e1
    clear hz e1
    go_enter Tryd.func6, Tryd.ntmps6
    go_wp2_with fail
    refine (szProblem_any _ _ M Q _ (g1 _ (by (repeat' (first | (with_reducible exact Below.refl _ _) | (with_reducible assumption) | (with_reducible refine Below.alloc ?_ ?_ _) | (with_reducible refine Below.drew ?_) | (with_reducible refine below_drewN ?_ _) | (with_reducible refine Below.setCell ?_ ?_ _) | (with_reducible refine Below.trans ?_ (Below.mono (by with_reducible assumption) ?_)) | (with_reducible exact Below.size (by with_reducible assumption)) | go_size)))) (g2 _ (by (repeat' (first | (with_reducible exact Below.refl _ _) | (with_reducible assumption) | (with_reducible refine Below.alloc ?_ ?_ _) | (with_reducible refine Below.drew ?_) | (with_reducible refine below_drewN ?_ _) | (with_reducible refine Below.setCell ?_ ?_ _) | (with_reducible refine Below.trans ?_ (Below.mono (by with_reducible assumption) ?_)) | (with_reducible exact Below.size (by with_reducible assumption)) | go_size))))).mono ?_; rw [E1.out]; rintro e w1 ⟨rfl, hb1⟩; obtain ⟨hc_hb1, hf_hb1⟩ := bcell hb1; obtain ⟨hcA_hb1, hfA_hb1⟩ := bcellG (W0 := w) hb1 (by (repeat' (first | (with_reducible exact Below.refl _ _) | (with_reducible assumption) | (with_reducible refine Below.alloc ?_ ?_ _) | (with_reducible refine Below.drew ?_) | (with_reducible refine below_drewN ?_ _) | (with_reducible refine Below.setCell ?_ ?_ _) | (with_reducible refine Below.trans ?_ (Below.mono (by with_reducible assumption) ?_)) | (with_reducible exact Below.size (by with_reducible assumption)) | go_size))); have hz_hb1 := hb1.size; (try simp at hz_hb1); (try simp only [Nat.add_one_le_iff] at hz_hb1); have hz0_hb1 : w.heap.size < w1.heap.size := (by omega)
    go_wp2_with fail
    go_ret
    refine ⟨rfl, ?_⟩
    (repeat' (first | (with_reducible exact Below.refl _ _) | (with_reducible assumption) | (with_reducible refine Below.alloc ?_ ?_ _) | (with_reducible refine Below.drew ?_) | (with_reducible refine below_drewN ?_ _) | (with_reducible refine Below.setCell ?_ ?_ _) | (with_reducible refine Below.trans ?_ (Below.mono (by with_reducible assumption) ?_)) | (with_reducible exact Below.size (by with_reducible assumption)) | go_size))
  obtain ⟨hn1, hn2⟩ := szP_fits hz
  have hle := szP_le M Q
  have HN1 := Lib.hid hn1
  have HN2 := Lib.hid hn2
  clear hn1 hn2
  have hspec := fun (m q : Value) (w : World) (h1 : PM.Rows w m M) (h2 : Ints w q Q) => specStepByRule_any m q M Q s r w h1 h2
  have himpl := fun (m q : Value) (w : World) (hg : Tab8 w) (h1 : PM.Rows w m M) (h2 : Ints w q Q) => implStepByRule_any m q M Q s r w hg h1 h2
  generalize stepOut M Q s r = o at *
  obtain ⟨O, code⟩ := o
  have HS := Lib.hid hspec
  have HI := Lib.hid himpl
  clear hspec himpl
  go_enter Tryd.func6, Tryd.ntmps6
  go_wp2_with fail
  refine (szProblem_any _ _ M Q _ (g1 _ (by (repeat' (first | (with_reducible exact Below.refl _ _) | (with_reducible assumption) | (with_reducible refine Below.alloc ?_ ?_ _) | (with_reducible refine Below.drew ?_) | (with_reducible refine below_drewN ?_ _) | (with_reducible refine Below.setCell ?_ ?_ _) | (with_reducible refine Below.trans ?_ (Below.mono (by with_reducible assumption) ?_)) | (with_reducible exact Below.size (by with_reducible assumption)) | go_size)))) (g2 _ (by (repeat' (first | (with_reducible exact Below.refl _ _) | (with_reducible assumption) | (with_reducible refine Below.alloc ?_ ?_ _) | (with_reducible refine Below.drew ?_) | (with_reducible refine below_drewN ?_ _) | (with_reducible refine Below.setCell ?_ ?_ _) | (with_reducible refine Below.trans ?_ (Below.mono (by with_reducible assumption) ?_)) | (with_reducible exact Below.size (by with_reducible assumption)) | go_size))))).mono ?_; rintro e w1 ⟨rfl, hb1⟩; obtain ⟨hc_hb1, hf_hb1⟩ := bcell hb1; obtain ⟨hcA_hb1, hfA_hb1⟩ := bcellG (W0 := w) hb1 (by (repeat' (first | (with_reducible exact Below.refl _ _) | (with_reducible assumption) | (with_reducible refine Below.alloc ?_ ?_ _) | (with_reducible refine Below.drew ?_) | (with_reducible refine below_drewN ?_ _) | (with_reducible refine Below.setCell ?_ ?_ _) | (with_reducible refine Below.trans ?_ (Below.mono (by with_reducible assumption) ?_)) | (with_reducible exact Below.size (by with_reducible assumption)) | go_size))); have hz_hb1 := hb1.size; (try simp at hz_hb1); (try simp only [Nat.add_one_le_iff] at hz_hb1); have hz0_hb1 : w.heap.size < w1.heap.size := (by omega)
  generalize szP M Q 1048576 = left at *
  have hw1 : Below w.heap.size w w1 := by (repeat' (first | (with_reducible exact Below.refl _ _) | (with_reducible assumption) | (with_reducible refine Below.alloc ?_ ?_ _) | (with_reducible refine Below.drew ?_) | (with_reducible refine below_drewN ?_ _) | (with_reducible refine Below.setCell ?_ ?_ _) | (with_reducible refine Below.trans ?_ (Below.mono (by with_reducible assumption) ?_)) | (with_reducible exact Below.size (by with_reducible assumption)) | go_size))
  go_wp2_with fail
  refine (toProblem_out _ _ M Q _ (g1 _ (by (repeat' (first | (with_reducible exact Below.refl _ _) | (with_reducible assumption) | (with_reducible refine Below.alloc ?_ ?_ _) | (with_reducible refine Below.drew ?_) | (with_reducible refine below_drewN ?_ _) | (with_reducible refine Below.setCell ?_ ?_ _) | (with_reducible refine Below.trans ?_ (Below.mono (by with_reducible assumption) ?_)) | (with_reducible exact Below.size (by with_reducible assumption)) | go_size)))) (g2 _ (by (repeat' (first | (with_reducible exact Below.refl _ _) | (with_reducible assumption) | (with_reducible refine Below.alloc ?_ ?_ _) | (with_reducible refine Below.drew ?_) | (with_reducible refine below_drewN ?_ _) | (with_reducible refine Below.setCell ?_ ?_ _) | (with_reducible refine Below.trans ?_ (Below.mono (by with_reducible assumption) ?_)) | (with_reducible exact Below.size (by with_reducible assumption)) | go_size)))) HN1.out HN2.out).mono ?_; rintro e w2 ⟨gA, gB, us2, rfl, hr2, hb2⟩; obtain ⟨hc_hb2, hf_hb2⟩ := bcell hb2; obtain ⟨hcA_hb2, hfA_hb2⟩ := bcellG (W0 := w1) hb2 (by (repeat' (first | (with_reducible exact Below.refl _ _) | (with_reducible assumption) | (with_reducible refine Below.alloc ?_ ?_ _) | (with_reducible refine Below.drew ?_) | (with_reducible refine below_drewN ?_ _) | (with_reducible refine Below.setCell ?_ ?_ _) | (with_reducible refine Below.trans ?_ (Below.mono (by with_reducible assumption) ?_)) | (with_reducible exact Below.size (by with_reducible assumption)) | go_size))); have hz_hb2 := hb2.size; (try simp at hz_hb2); (try simp only [Nat.add_one_le_iff] at hz_hb2); have hz0_hb2 : w.heap.size < w2.heap.size := (by omega)
  have R2 := Lib.hid (hr2.reads I1.out I2.out)
  clear hr2
  have hw2 : Below w.heap.size w w2 := hw1.trans (hb2.mono hw1.size)
  go_wp2_with fail
  refine (HS.out _ _ _ R2.out.1 R2.out.2).mono ?_; rintro e w3 ⟨rfl, hb3⟩; dsimp only; obtain ⟨hc_hb3, hf_hb3⟩ := bcell hb3; obtain ⟨hcA_hb3, hfA_hb3⟩ := bcellG (W0 := w2) hb3 (by (repeat' (first | (with_reducible exact Below.refl _ _) | (with_reducible assumption) | (with_reducible refine Below.alloc ?_ ?_ _) | (with_reducible refine Below.drew ?_) | (with_reducible refine below_drewN ?_ _) | (with_reducible refine Below.setCell ?_ ?_ _) | (with_reducible refine Below.trans ?_ (Below.mono (by with_reducible assumption) ?_)) | (with_reducible exact Below.size (by with_reducible assumption)) | go_size))); have hz_hb3 := hb3.size; (try simp at hz_hb3); (try simp only [Nat.add_one_le_iff] at hz_hb3); have hz0_hb3 : w.heap.size < w3.heap.size := (by omega)
  clear R2
  have hw3 : Below w.heap.size w w3 := hw2.trans (hb3.mono hw2.size)
  go_wp2_with fail
  refine (toProblem_out _ _ M Q _ (g1 _ (by (repeat' (first | (with_reducible exact Below.refl _ _) | (with_reducible assumption) | (with_reducible refine Below.alloc ?_ ?_ _) | (with_reducible refine Below.drew ?_) | (with_reducible refine below_drewN ?_ _) | (with_reducible refine Below.setCell ?_ ?_ _) | (with_reducible refine Below.trans ?_ (Below.mono (by with_reducible assumption) ?_)) | (with_reducible exact Below.size (by with_reducible assumption)) | go_size)))) (g2 _ (by (repeat' (first | (with_reducible exact Below.refl _ _) | (with_reducible assumption) | (with_reducible refine Below.alloc ?_ ?_ _) | (with_reducible refine Below.drew ?_) | (with_reducible refine below_drewN ?_ _) | (with_reducible refine Below.setCell ?_ ?_ _) | (with_reducible refine Below.trans ?_ (Below.mono (by with_reducible assumption) ?_)) | (with_reducible exact Below.size (by with_reducible assumption)) | go_size)))) HN1.out HN2.out).mono ?_; rintro e w4 ⟨gC, gD, us4, rfl, hr4, hb4⟩; obtain ⟨hc_hb4, hf_hb4⟩ := bcell hb4; obtain ⟨hcA_hb4, hfA_hb4⟩ := bcellG (W0 := w3) hb4 (by (repeat' (first | (with_reducible exact Below.refl _ _) | (with_reducible assumption) | (with_reducible refine Below.alloc ?_ ?_ _) | (with_reducible refine Below.drew ?_) | (with_reducible refine below_drewN ?_ _) | (with_reducible refine Below.setCell ?_ ?_ _) | (with_reducible refine Below.trans ?_ (Below.mono (by with_reducible assumption) ?_)) | (with_reducible exact Below.size (by with_reducible assumption)) | go_size))); have hz_hb4 := hb4.size; (try simp at hz_hb4); (try simp only [Nat.add_one_le_iff] at hz_hb4); have hz0_hb4 : w.heap.size < w4.heap.size := (by omega)
  have HR4 := Lib.hid hr4
  clear hr4
  have hw4 : Below w.heap.size w w4 := hw3.trans (hb4.mono hw3.size)
  go_wp2_with fail
  have hr4a := HR4.out.below (w' := w4.alloc (.cells #[.slice (some ⟨gC, 0, none⟩) M.length M.length, .slice (some ⟨gD, 0, none⟩) Q.length Q.length] 29)) (B := w4.heap.size) ((Below.refl _ _).alloc (Nat.le_refl _) _) (Nat.le_refl _)
  have R4 := Lib.hid (hr4a.reads I1.out I2.out)
  clear hr4a
  refine (HI.out _ _ _ (gl _ (by (repeat' (first | (with_reducible exact Below.refl _ _) | (with_reducible assumption) | (with_reducible refine Below.alloc ?_ ?_ _) | (with_reducible refine Below.drew ?_) | (with_reducible refine below_drewN ?_ _) | (with_reducible refine Below.setCell ?_ ?_ _) | (with_reducible refine Below.trans ?_ (Below.mono (by with_reducible assumption) ?_)) | (with_reducible exact Below.size (by with_reducible assumption)) | go_size)))) R4.out.1 R4.out.2).mono ?_; rintro e w5 ⟨rfl, hb5⟩; dsimp only; obtain ⟨hc_hb5, hf_hb5⟩ := bcell hb5; obtain ⟨hcA_hb5, hfA_hb5⟩ := bcellG (W0 := w4) hb5 (by (repeat' (first | (with_reducible exact Below.refl _ _) | (with_reducible assumption) | (with_reducible refine Below.alloc ?_ ?_ _) | (with_reducible refine Below.drew ?_) | (with_reducible refine below_drewN ?_ _) | (with_reducible refine Below.setCell ?_ ?_ _) | (with_reducible refine Below.trans ?_ (Below.mono (by with_reducible assumption) ?_)) | (with_reducible exact Below.size (by with_reducible assumption)) | go_size))); have hz_hb5 := hb5.size; (try simp at hz_hb5); (try simp only [Nat.add_one_le_iff] at hz_hb5); have hz0_hb5 : w.heap.size < w5.heap.size := (by omega)
  have hz45 : w4.heap.size < w5.heap.size := by omega
  clear R4
  have hw45 : Below w4.heap.size w4 w5 := ((Below.refl w4.heap.size w4).alloc (Nat.le_refl _) _).trans (hb5.mono (by simp))
  have x50 : w5.cell? ⟨w4.heap.size, 0, none⟩ = some (.slice (some ⟨gC, 0, none⟩) M.length M.length) := by rw [hc_hb5 _ _ (by simp)]; simp
  have x51 : w5.cell? ⟨w4.heap.size, 1, none⟩ = some (.slice (some ⟨gD, 0, none⟩) Q.length Q.length) := by rw [hc_hb5 _ _ (by simp)]; simp
  have hw13 : Below w1.heap.size w1 w3 := hb2.trans (hb3.mono hb2.size)
  have hw35 : Below w3.heap.size w3 w5 := hb4.trans (hw45.mono hb4.size)
  have hw15 : Below w1.heap.size w1 w5 := hw13.trans (hw35.mono hw13.size)
  have hw5 : Below w.heap.size w w5 := hw3.trans (hw35.mono hw3.size)
  have p10 : w1.cell? ⟨w.heap.size, 0, none⟩ = some (.slice a1 M.length c1) := by rw [hc_hb1 _ _ (by simp)]; simp
  have p11 : w1.cell? ⟨w.heap.size, 1, none⟩ = some (.slice a2 Q.length c2) := by rw [hc_hb1 _ _ (by simp)]; simp
  have hvq : Vq w5 w.heap.size w4.heap.size (.slice a1 M.length c1) (.slice a2 Q.length c2) (.slice (some ⟨gC, 0, none⟩) M.length M.length) (.slice (some ⟨gD, 0, none⟩) Q.length Q.length) :=
    ⟨(hw15.cell (p := ⟨w.heap.size, 0, none⟩) hz0_hb1).trans p10, (hw15.cell (p := ⟨w.heap.size, 1, none⟩) hz0_hb1).trans p11, x50, x51, by omega, hz45⟩
  have hX5 := HR4.out.below hw45 (Nat.le_refl _)
  obtain ⟨P, hP⟩ : ∃ P, P = w.heap.size := ⟨_, rfl⟩
  obtain ⟨A1, hA1⟩ : ∃ A1, A1 = w3.heap.size := ⟨_, rfl⟩
  obtain ⟨V, hV⟩ : ∃ V, V = w4.heap.size := ⟨_, rfl⟩
  rw [← hP] at hvq
  rw [← hA1] at hX5
  rw [← hV] at hX5 hvq hz45
  rw [← hP, ← hV]
  clear hP hA1 hV hw13 hw15 hw35 hw45 p10 p11 x50 x51 HR4 hw1 hw2 hw3 hw4 HS
  clear hc_hb1 hf_hb1 hcA_hb1 hfA_hb1 hz_hb1 hz0_hb1 hb1 hc_hb2 hf_hb2 hcA_hb2 hfA_hb2 hz_hb2 hz0_hb2 hb2 hc_hb3 hf_hb3 hcA_hb3 hfA_hb3 hz_hb3 hz0_hb3 hb3 hc_hb4 hf_hb4 hcA_hb4 hfA_hb4 hz_hb4 hz0_hb4 hb4 hc_hb5 hf_hb5 hcA_hb5 hfA_hb5 hz_hb5 hz0_hb5 hb5
  have RX := Lib.hid (hX5.reads I1.out I2.out)
  obtain ⟨k1, k2, k3, k4, l1, l2⟩ := hvq
  have r1 : ∀ w', Below w5.heap.size w5 w' → w'.cell? ⟨P, 0, none⟩ = some (.slice a1 M.length c1) := fun w' h => (h.cell (p := ⟨P, 0, none⟩) (by show P < _; omega)).trans k1
  have r2 : ∀ w', Below w5.heap.size w5 w' → w'.cell? ⟨P, 1, none⟩ = some (.slice a2 Q.length c2) := fun w' h => (h.cell (p := ⟨P, 1, none⟩) (by show P < _; omega)).trans k2
  have r3 : ∀ w', Below w5.heap.size w5 w' → w'.cell? ⟨V, 0, none⟩ = some (.slice (some ⟨gC, 0, none⟩) M.length M.length) := fun w' h => (h.cell (p := ⟨V, 0, none⟩) (by show V < _; omega)).trans k3
  have r4 : ∀ w', Below w5.heap.size w5 w' → w'.cell? ⟨V, 1, none⟩ = some (.slice (some ⟨gD, 0, none⟩) Q.length Q.length) := fun w' h => (h.cell (p := ⟨V, 1, none⟩) (by show V < _; omega)).trans k4
  clear hX5 k1 k2 k3 k4 hz45
  go_wp2_with fail
  go_region_held3 (fun w' => Below w5.heap.size w5 w') ((repeat' (first | (with_reducible exact Below.refl _ _) | (with_reducible assumption) | (with_reducible refine Below.alloc ?_ ?_ _) | (with_reducible refine Below.drew ?_) | (with_reducible refine below_drewN ?_ _) | (with_reducible refine Below.setCell ?_ ?_ _) | (with_reducible refine Below.trans ?_ (Below.mono (by with_reducible assumption) ?_)) | (with_reducible exact Below.size (by with_reducible assumption)) | go_size)))
    (first | (go_at_call 15; refine (toProblem_out _ _ M Q _ (g1 _ (hw5.trans (Below.mono (by assumption) hw5.size))) (g2 _ (hw5.trans (Below.mono (by assumption) hw5.size))) HN1.out HN2.out).mono ?_; rintro e w8 ⟨gE, gF, us8, rfl, hr8, hb8⟩; have hS8 : Below w5.heap.size w5 w8 := (by (repeat' (first | (with_reducible exact Below.refl _ _) | (with_reducible assumption) | (with_reducible refine Below.alloc ?_ ?_ _) | (with_reducible refine Below.drew ?_) | (with_reducible refine below_drewN ?_ _) | (with_reducible refine Below.setCell ?_ ?_ _) | (with_reducible refine Below.trans ?_ (Below.mono (by with_reducible assumption) ?_)) | (with_reducible exact Below.size (by with_reducible assumption)) | go_size))); have R8 := Lib.hid (hr8.reads I1.out I2.out); clear hr8) | (go_at_call 17; refine (eqProblem_same _ _ _ _ M Q _ (RX.out.1.below hS8) (RX.out.2.below hS8) R8.out.1 R8.out.2).mono ?_; rintro e w9 ⟨rfl, hb9⟩; have hS9 : Below w5.heap.size w5 w9 := (by (repeat' (first | (with_reducible exact Below.refl _ _) | (with_reducible assumption) | (with_reducible refine Below.alloc ?_ ?_ _) | (with_reducible refine Below.drew ?_) | (with_reducible refine below_drewN ?_ _) | (with_reducible refine Below.setCell ?_ ?_ _) | (with_reducible refine Below.trans ?_ (Below.mono (by with_reducible assumption) ?_)) | (with_reducible exact Below.size (by with_reducible assumption)) | go_size)))))
  have hw9 : Below w.heap.size w w9 := hw5.trans (hS9.mono hw5.size)
  go_wp2_with fail
  go_ret
  exact ⟨rfl, hw9⟩
end Go.Proofs.YtopokicejgjcoaaDoor.PW
namespace Go.Proofs.YtopokicejgjcoaaDoor.PW
open Go.RowKit Go.Proofs.YtopokicejgjcoaaDoor
open Go.Proofs.YtopokicejgjcoaaDoor.PM Go.Proofs.YtopokicejgjcoaaDoor.PX

theorem uinfo_bool : (Tryd.prog.info? 4).map (fun i => (i.zero, i.size, i.bytes)) = some (some (.bool false), 1, 1) := by kernel_rfl
/-- What lies in memory while the model's run goes on: the problem's box, which sets are marked, the list. -/
structure SpW (w wr : World) (m q v : Value) (T : Nat) (S R : List Int) : Prop where
  below : Below w.heap.size w wr
  b0 : wr.cell? ⟨w.heap.size, 0, none⟩ = some m
  b1 : wr.cell? ⟨w.heap.size, 1, none⟩ = some q
  row : wr.rowIs (w.heap.size + 1) 4 T (fun j => .bool (decide ((j : Int) ∈ R)))
  own : FreshI (w.heap.size + 1 + 1) wr v S
  big : w.heap.size + 1 + 1 < wr.heap.size
theorem rowIs_below {w w' : World} {b : Nat} {t : TypeId} {n B : Nat} {f : Nat → Value} (h : w.rowIs b t n f) (hb : Below B w w') (hB : b < B) : w'.rowIs b t n f := by
  obtain ⟨c, h1, h2⟩ := h
  exact ⟨c, (hb.block b hB).trans h1, h2⟩
theorem SpW.keep {w wr w' : World} {m q v : Value} {T : Nat} {S R : List Int} (h : SpW w wr m q v T S R) (hb : Below wr.heap.size wr w') : SpW w w' m q v T S R := by
  have hz := h.big
  obtain ⟨hc, _⟩ := FW.bcell hb
  exact ⟨h.below.trans (hb.mono h.below.size), (hc _ _ (by omega)).trans h.b0, (hc _ _ (by omega)).trans h.b1, rowIs_below h.row hb (by omega), h.own.below hb, Nat.lt_of_lt_of_le hz hb.size⟩
theorem SpW.push {w wr w4 : World} {m q v : Value} {T : Nat} {S R : List Int} {x : Int} {C g cap n : Nat} {t : TypeId} (h : SpW w wr m q v T S R) (hn : n = S.length)
    (hown : w4.ownsRow C 2 1 (.slice (some ⟨g, 0, none⟩) (n + 1) cap) (n + 1) (S.map (Value.int .i64) ++ [.int .i64 x])) (hgrow : (wr.alloc (.cells #[.int .i64 x] t)).grownBy w4 v.ownBlock)
    (hat : v.ownBlock = some g ∨ g = (wr.alloc (.cells #[.int .i64 x] t)).heap.size) (hlt : g < w4.heap.size) : SpW w w4 m q (.slice (some ⟨g, 0, none⟩) (n + 1) cap) T (S ++ [x]) R := by
  have hz := h.big
  have hb : Below (w.heap.size + 1 + 1) wr w4 := h.own.grow (Below.refl _ _) (by omega) hgrow
  have hp := h.own.push (by omega) hn hown hat hlt
  have hc : ∀ b o, b < w.heap.size + 1 + 1 → w4.cell? ⟨b, o, none⟩ = wr.cell? ⟨b, o, none⟩ := fun b o hb' => hb.cell (p := ⟨b, o, none⟩) hb'
  exact ⟨h.below.trans (hb.mono (by omega)), (hc _ _ (by omega)).trans h.b0, (hc _ _ (by omega)).trans h.b1, rowIs_below h.row hb (by omega), hp, Nat.lt_of_lt_of_le hz hb.size⟩
theorem SpW.mark {w wr : World} {m q v : Value} {T j : Nat} {S R : List Int} (h : SpW w wr m q v T S R) : SpW w (wr.setCell ⟨w.heap.size + 1, j, none⟩ (.bool true)) m q v T S (R ++ [(j : Int)]) := by
  have h0 := h.b0; have h1 := h.b1
  refine ⟨h.below.setCell (by simp) _, ?_, ?_, ?_, ?_, by simpa using h.big⟩
  · simp [h0, go_sem]
  · simp [h1, go_sem]
  · refine (h.row.set j _).congr (fun i hi => ?_)
    by_cases e : i = j
    · subst e; simp
    · have : ¬ (i : Int) = (j : Int) := by omega
      rw [if_neg e]
      simp [this]
  · obtain ⟨g, cap, hv, h2, h3, ho⟩ := h.own
    refine ⟨g, cap, hv, h2, by simpa using h3, ?_⟩
    refine ⟨ho.1, ?_⟩
    rcases ho.2 with h4 | ⟨g', cap', cur, hv', hb, hg, r⟩
    · exact .inl h4
    · refine .inr ⟨g', cap', cur, hv', hb, ?_, r⟩
      have : g' = g := by rw [hv] at hv'; simp at hv'; exact hv'.1.symm
      rw [← hg]
      exact Below.heap_setCell _ _ _ _ (by show g' ≠ w.heap.size + 1; omega)

def lenW : Value → Nat | .slice _ n _ => n | _ => 0
theorem ubox_size (w : World) (o : Obj) : (w.alloc o).heap.size = w.heap.size + 1 := by simp
set_option maxRecDepth 100000 in
set_option maxHeartbeats 4000000 in
theorem l08Run_any (m q : Value) (M : List (List Int)) (Q : List Int) (s r : Int) (w : World) (h1 : PM.Rows w m M) (h2 : Ints w q Q) (hp : isPB M Q = true) (hs0 : 0 ≤ s) (hs1 : s < 2 ^ M.length) (hr0 : 0 ≤ r) (hr1 : r ≤ 3) :
    Calls Tryd.prog 83 #[.agg #[m, q], .int .i64 s, .int .i64 r] w fun e w' => ∃ v, e = .returned (.tuple #[v, .int .i64 (runO M Q r 33 [] s).2]) ∧ FreshI w.heap.size w' v (runO M Q r 33 [] s).1 ∧ Below w.heap.size w w' := by
  have g1 := fun (w' : World) (h : Below w.heap.size w w') => h1.below h
  have g2 := fun (w' : World) (h : Below w.heap.size w w') => h2.below h
  obtain ⟨a1, c1, rfl, _⟩ := h1
  obtain ⟨a2, c2, rfl, _⟩ := h2
  have f1 := (isPB_facts hp).1
  have f2 := (isPB_facts hp).2.1
  have f3 := (isPB_facts hp).2.2.1
  have HP := Lib.hid hp
  have HMF := Lib.hid (Met.first hs0 hs1)
  have HF1 := Lib.hid (And.intro f1 f2)
  obtain ⟨T, hT⟩ : ∃ T : Nat, T = 2 ^ M.length := ⟨_, rfl⟩
  have hT5 : T ≤ 32 := by rw [hT]; exact pow_le_32 f2
  have hT0 : 1 ≤ T := by rw [hT]; exact Nat.one_le_two_pow
  have hTp : (T : Int) = 2 ^ M.length := by rw [hT]; norm_cast
  clear hT
  have hmk := run_make_row' (P := Tryd.prog) 108 4 (.bool false) 1 Tryd.underlying108 uinfo_bool rfl .i64 .i64 T (by omega) (by omega)
  obtain ⟨j0, hj, hyy0, hyy1, hyy2⟩ := info_parts info_int
  have hwr : wrap64 ((2 : Int) ^ M.length) = (T : Int) := by rw [← hTp]; unfold wrap64; omega
  have HTP := Lib.hid hTp
  rw [f3] at g2 ⊢
  clear hp hs0 hs1 hTp f1 f3
  have HML : Hid (∃ n, n = M.length) := ⟨_, rfl⟩
  obtain ⟨N, hN⟩ := HML.out
  rw [← hN] at g1 g2 hwr f2 HMF HTP HF1 ⊢
  have HN := Lib.hid hN
  clear hN HML
  go_enter Tryd.func83, Tryd.ntmps83
  go_wp2_with fail
  clear hwr hmk
  go_loopw [1, 9, 10, 11, 12] (fun sv v _ _ _ wr => ∃ (k : Nat) (S : List Int) (t : Nat), sv = .int .i64 t ∧ Met N S t k ∧ runO M Q r k S t = runO M Q r 33 [] s ∧ SpW w wr (.slice a1 N c1) (.slice a2 N c2) v T S S) (fun _ v _ _ _ _ => 33 - lenW v)
  case atStart =>
    obtain ⟨t, ht⟩ := Int.eq_ofNat_of_zero_le HMF.out.lo
    refine ⟨33, [], t, by rw [ht], by rw [← ht]; exact HMF.out, by rw [← ht], ?_⟩
    refine ⟨by (repeat' (first | (with_reducible exact Below.refl _ _) | (with_reducible assumption) | (with_reducible refine Below.alloc ?_ ?_ _) | (with_reducible refine Below.drew ?_) | (with_reducible refine below_drewN ?_ _) | (with_reducible refine Below.setCell ?_ ?_ _) | (with_reducible refine Below.trans ?_ (Below.mono (by with_reducible assumption) ?_)) | (with_reducible exact Below.size (by with_reducible assumption)) | go_size)), ?_, ?_, ?_, ?_, by simp⟩
    · simp [go_sem]
    · simp [go_sem]
    · have h := (World.rowIs_made (w.alloc (.cells #[.slice a1 N c1, .slice a2 N c2] 29)) (.bool false) T 4)
      rw [ubox_size] at h
      exact rowIs_below (B := w.heap.size + 1 + 1) (h.congr (fun i _ => by simp)) ((Below.refl _ _).alloc (by simp) _) (by omega)
    · have h := freshI_nil ((w.alloc (.cells #[.slice a1 N c1, .slice a2 N c2] 29)).alloc (.cells (madeCells #[.bool false] T) 4))
      rw [ubox_size, ubox_size] at h
      exact h
  case round =>
    obtain ⟨k, S, t, rfl, hM, hrun, hR⟩ := hrel
    obtain ⟨j, rfl, hL5⟩ := hM.pos f2
    obtain ⟨gv, cv, rfl, _, _, _⟩ := id hR.own
    have HRUN := Lib.hid hrun
    have HM := Lib.hid hM
    have HRW := Lib.hid hR
    have HOW := Lib.hid hR.own.owns
    have b0 := hR.b0
    have b1 := hR.b1
    have hbg := hR.big
    obtain ⟨L, hL⟩ : ∃ L, L = S.length := ⟨_, rfl⟩
    rw [← hL] at HRW HOW hL5
    have HL := Lib.hid hL
    have htT : t < T := by have := hM.hi; rw [← HTP.out] at this; omega
    have HG := Lib.hid (fun (w' : World) (hb : Below w.heap.size w w') => And.intro (g1 _ hb) (g2 _ hb))
    rw [← hL]
    clear hR hM hrun hL
    by_cases hD : dt M.length (colS M t) = 0
    · have HPZ := Lib.hid (fun (w' : World) (hb : Below w.heap.size w w') => l08Step_zero _ _ M Q t r w' (HG.out _ hb).1 (HG.out _ hb).2 HP.out hD)
      have HO := Lib.hid (runO_stuck (M := M) (Q := Q) (r := r) (k := j) (S := S) hD)
      clear hD
      go_wp2_with (at_builtin; refine wpList_append_lies _ rfl _ _ 23 rfl 0 2 j0 (.int .i64 0) 1 8 Tryd.underlying23 hj hyy0 hyy1 hyy2 rfl (by decide) (.slice (some ⟨gv, 0, none⟩) L cv) L _ rfl ((HOW.out).alloc _) _ 1 _ [.int .i64 t] rfl rfl (cell_one_new _ _ _) (by simp [Value.oneCell']) (by decide) (by unfold maxLen; omega) (by omega) (Nat.zero_le _) _ rfl ?_; intro g cap w3 hown hgrow hat hgl; have hput := HRW.out.push HL.out hown hgrow hat hgl; have HP3 := Lib.hid hput; have b0 := hput.b0; have b1 := hput.b1; clear hput hown hgrow hat hgl)
      refine (HPZ.out _ HP3.out.below).mono ?_; rintro e w5 ⟨rfl, hb5⟩
      have HR5 := Lib.hid (HP3.out.keep hb5)
      go_wp2_with fail
      go_ret2
      rw [← HRUN.out, HO.out]
      exact ⟨_, rfl, HR5.out.own.mono (by omega), HR5.out.below⟩
    by_cases hm : (t : Int) ∈ S
    · have HO := Lib.hid (runO_again (M := M) (Q := Q) (r := r) (k := j) (S := S) hD hm)
      have HMEM := Lib.hid (show decide ((t : Int) ∈ S) = true from decide_eq_true hm)
      have HPK : Hid (∃ (go : Bool) (S' : Int), ∀ (w' : World), Below w.heap.size w w' → Calls Tryd.prog 78 #[.agg #[.slice a1 N c1, .slice a2 N c2], .int .i64 t, .int .i64 r] w' fun e w'' => e = .returned (.tuple #[.int .i64 S', .bool go, .bool true]) ∧ Below w'.heap.size w' w'') :=
        ⟨!nonneg (ptL M Q t), _, fun w' hb => l08Step_any _ _ M Q t r w' (HG.out _ hb).1 (HG.out _ hb).2 HP.out hr0 hr1 hD (!nonneg (ptL M Q t)) _ (by simp) rfl⟩
      obtain ⟨go, S', hpk⟩ := HPK.out
      have HPK := Lib.hid hpk
      clear hD hm hpk
      go_wp2_with (at_builtin; refine wpList_append_lies _ rfl _ _ 23 rfl 0 2 j0 (.int .i64 0) 1 8 Tryd.underlying23 hj hyy0 hyy1 hyy2 rfl (by decide) (.slice (some ⟨gv, 0, none⟩) L cv) L _ rfl ((HOW.out).alloc _) _ 1 _ [.int .i64 t] rfl rfl (cell_one_new _ _ _) (by simp [Value.oneCell']) (by decide) (by unfold maxLen; omega) (by omega) (Nat.zero_le _) _ rfl ?_; intro g cap w3 hown hgrow hat hgl; have hput := HRW.out.push HL.out hown hgrow hat hgl; have HP3 := Lib.hid hput; have b0 := hput.b0; have b1 := hput.b1; clear hput hown hgrow hat hgl)
      refine (HPK.out _ HP3.out.below).mono ?_; rintro e w5 ⟨rfl, hb5⟩
      have hR5 := HP3.out.keep hb5
      have hc := hR5.row.cell htT
      rw [HMEM.out] at hc
      have HR5 := Lib.hid hR5
      clear hR5
      go_wp2_with fail
      go_ret2
      rw [← HRUN.out, HO.out]
      exact ⟨_, rfl, HR5.out.own.mono (by omega), HR5.out.below⟩
    have HMEM := Lib.hid (show decide ((t : Int) ∈ S) = false from decide_eq_false hm)
    cases hn : nonneg (ptL M Q t)
    case true =>
      have HO := Lib.hid (runO_solved (M := M) (Q := Q) (r := r) (k := j) (S := S) hD hm hn)
      have HPK := Lib.hid (fun (w' : World) (hb : Below w.heap.size w w') => l08Step_any _ _ M Q t r w' (HG.out _ hb).1 (HG.out _ hb).2 HP.out hr0 hr1 hD false t (by rw [hn]; rfl) (by simp))
      clear hD hm hn
      go_wp2_with (at_builtin; refine wpList_append_lies _ rfl _ _ 23 rfl 0 2 j0 (.int .i64 0) 1 8 Tryd.underlying23 hj hyy0 hyy1 hyy2 rfl (by decide) (.slice (some ⟨gv, 0, none⟩) L cv) L _ rfl ((HOW.out).alloc _) _ 1 _ [.int .i64 t] rfl rfl (cell_one_new _ _ _) (by simp [Value.oneCell']) (by decide) (by unfold maxLen; omega) (by omega) (Nat.zero_le _) _ rfl ?_; intro g cap w3 hown hgrow hat hgl; have hput := HRW.out.push HL.out hown hgrow hat hgl; have HP3 := Lib.hid hput; have b0 := hput.b0; have b1 := hput.b1; clear hput hown hgrow hat hgl)
      refine (HPK.out _ HP3.out.below).mono ?_; rintro e w5 ⟨rfl, hb5⟩
      have hR5 := HP3.out.keep hb5
      have hc := hR5.row.cell htT
      rw [HMEM.out] at hc
      have HR5 := Lib.hid hR5
      clear hR5
      go_wp2_with fail
      go_ret2
      rw [← HRUN.out, HO.out]
      exact ⟨_, rfl, HR5.out.own.mono (by omega), HR5.out.below⟩
    case false =>
      have HO := Lib.hid (runO_on (M := M) (Q := Q) (r := r) (k := j) (S := S) hD hm hn)
      have HPK := Lib.hid (fun (w' : World) (hb : Below w.heap.size w w') => l08Step_any _ _ M Q t r w' (HG.out _ hb).1 (HG.out _ hb).2 HP.out hr0 hr1 hD true (stpS M Q r t) (by rw [hn]; rfl) (by simp))
      have hst := stpS_in (r := r) (by rw [← HN.out]; exact HF1.out.1) (by rw [← HN.out]; exact f2) HM.out.lo (by rw [← HN.out]; exact HM.out.hi) hn
      rw [← HN.out] at hst
      have hM2 := HM.out.next hm hst.1 hst.2
      obtain ⟨t', ht'⟩ := Int.eq_ofNat_of_zero_le hst.1
      rw [ht'] at HO HPK hM2
      have HM2 := Lib.hid hM2
      clear hD hm hn hst ht' hM2
      go_wp2_with (at_builtin; refine wpList_append_lies _ rfl _ _ 23 rfl 0 2 j0 (.int .i64 0) 1 8 Tryd.underlying23 hj hyy0 hyy1 hyy2 rfl (by decide) (.slice (some ⟨gv, 0, none⟩) L cv) L _ rfl ((HOW.out).alloc _) _ 1 _ [.int .i64 t] rfl rfl (cell_one_new _ _ _) (by simp [Value.oneCell']) (by decide) (by unfold maxLen; omega) (by omega) (Nat.zero_le _) _ rfl ?_; intro g cap w3 hown hgrow hat hgl; have hput := HRW.out.push HL.out hown hgrow hat hgl; have HP3 := Lib.hid hput; have b0 := hput.b0; have b1 := hput.b1; clear hput hown hgrow hat hgl)
      refine (HPK.out _ HP3.out.below).mono ?_; rintro e w5 ⟨rfl, hb5⟩
      have hR5 := HP3.out.keep hb5
      have hc := hR5.row.cell htT
      have hfz := hR5.row.frozen t
      rw [HMEM.out] at hc
      have HR5 := Lib.hid (hR5.mark (j := t))
      clear hR5
      go_wp2_with fail
      go_roundw
      case rel =>
        refine ⟨j, S ++ [(t : Int)], t', by go_num, HM2.out, ?_, HR5.out⟩
        rw [← HRUN.out, HO.out]
      case measure => simp [lenW]; omega
end Go.Proofs.YtopokicejgjcoaaDoor.PW
