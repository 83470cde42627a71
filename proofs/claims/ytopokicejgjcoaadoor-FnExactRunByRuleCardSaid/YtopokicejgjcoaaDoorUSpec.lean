/-
  Walks: a step by a rule, in the model.
-/
import Derived.Test.YtopokicejgjcoaaDoorUStep
namespace Go.Proofs.YtopokicejgjcoaaDoor.PW
open Go.RowKit Go.Proofs.YtopokicejgjcoaaDoor
open Go.Proofs.YtopokicejgjcoaaDoor.PM Go.Proofs.YtopokicejgjcoaaDoor.PX

theorem ul01Less_any (an ad bn bd : Int) (w : World) (ha : FM.isF an ad = true) (hb : FM.isF bn bd = true) :
    Calls Tryd.prog 110 #[.agg #[.int .i64 an, .int .i64 ad], .agg #[.int .i64 bn, .int .i64 bd]] w fun e w' => e = .returned (.bool (decide (an * bd < bn * ad))) ∧ Below w.heap.size w w' := by
  obtain ⟨a1, a2, a3, a4, _⟩ := FM.isF_yes ha
  obtain ⟨b1, b2, b3, b4, _⟩ := FM.isF_yes hb
  have p1 := uprod_bd a1 a2 (b := bd) (by omega) b4
  have p2 := uprod_bd b1 b2 (b := ad) (by omega) a4
  clear ha hb
  go_enter Tryd.func110, Tryd.ntmps110
  go_wp2
  all_goals (go_ret; refine ⟨ret_bool (by simp; try omega), ?_⟩)
  all_goals (repeat' (first | (with_reducible exact Below.refl _ _) | (with_reducible assumption) | (with_reducible refine Below.alloc ?_ ?_ _) | (with_reducible refine Below.drew ?_) | (with_reducible refine below_drewN ?_ _) | (with_reducible refine Below.setCell ?_ ?_ _) | (with_reducible refine Below.trans ?_ (Below.mono (by with_reducible assumption) ?_)) | (with_reducible exact Below.size (by with_reducible assumption)) | go_size))
theorem l08Less_any (x y : Int) (w : World) :
    Calls Tryd.prog 109 #[.agg #[.int .i64 x, .int .i64 y]] w fun e w' => e = .returned (.bool (decide (x < 0))) ∧ Below w.heap.size w w' := by
  go_enter Tryd.func109, Tryd.ntmps109
  go_wp2
  go_ret
  refine ⟨ret_bool (by simp), ?_⟩
  (repeat' (first | (with_reducible exact Below.refl _ _) | (with_reducible assumption) | (with_reducible refine Below.alloc ?_ ?_ _) | (with_reducible refine Below.drew ?_) | (with_reducible refine below_drewN ?_ _) | (with_reducible refine Below.setCell ?_ ?_ _) | (with_reducible refine Below.trans ?_ (Below.mono (by with_reducible assumption) ?_)) | (with_reducible exact Below.size (by with_reducible assumption)) | go_size))

/-- What the model keeps while it looks at a point: the first and the last number below 0, the least one, and all. -/
def StV (xs : List (Int × Int)) (k : Nat) (f l t s : Value) : Prop :=
  (negM xs k = 0 ∧ f = .int .i64 (-1) ∧ l = .int .i64 (-1) ∧ t = .int .i64 (-1) ∧ s = .int .i64 0) ∨
  (negM xs k ≠ 0 ∧ f = .int .i64 (loB (negM xs k) : Nat) ∧ l = .int .i64 (hiB (negM xs k) : Nat) ∧ t = .int .i64 (lsI xs k : Nat) ∧ s = .int .i64 (negM xs k : Nat))
theorem StV.zero (xs : List (Int × Int)) : StV xs 0 (.int .i64 (-1)) (.int .i64 (-1)) (.int .i64 (-1)) (.int .i64 0) := .inl ⟨rfl, rfl, rfl, rfl, rfl⟩
theorem StV.skip {xs : List (Int × Int)} {k : Nat} {f l t s : Value} (h : StV xs k f l t s) (hp : ∀ j, j < k + 1 → 0 < (xs.getD j (0, 0)).2) (hn : ¬ (xs.getD k (0, 0)).1 < 0) : StV xs (k + 1) f l t s := by
  rcases h with ⟨h0, h1, h2, h3, h4⟩ | ⟨h0, h1, h2, h3, h4⟩
  · exact .inl ⟨by rw [negM_no hn]; exact h0, h1, h2, h3, h4⟩
  · exact .inr ⟨by rw [negM_no hn]; exact h0, by rw [negM_no hn]; exact h1, by rw [negM_no hn]; exact h2, by rw [lsI_past hp h0 hn]; exact h3, by rw [negM_no hn]; exact h4⟩
theorem StV.first {xs : List (Int × Int)} {k : Nat} (hk : k < 5) (h0 : negM xs k = 0) (hp : ∀ j, j < k + 1 → 0 < (xs.getD j (0, 0)).2) (hn : (xs.getD k (0, 0)).1 < 0) : StV xs (k + 1) (.int .i64 k) (.int .i64 k) (.int .i64 k) (.int .i64 ((2 : Int) ^ k)) := by
  obtain ⟨p1, p2, p3⟩ := lohi_step hk (negM_lt xs k)
  rw [if_pos h0] at p3
  refine .inr ⟨by rw [negM_yes hn]; exact p1, by rw [negM_yes hn, p3], by rw [negM_yes hn, p2], by rw [lsI_first hp h0 hn], ?_⟩
  rw [negM_yes hn, h0, Nat.zero_or]
  norm_cast
theorem StV.more {xs : List (Int × Int)} {k : Nat} (hk : k < 5) (h0 : negM xs k ≠ 0) (hn : (xs.getD k (0, 0)).1 < 0) : StV xs (k + 1) (.int .i64 (loB (negM xs k) : Nat)) (.int .i64 k) (.int .i64 (lsI xs (k + 1) : Nat)) (.int .i64 ((negM xs k ||| 2 ^ k : Nat) : Int)) := by
  obtain ⟨p1, p2, p3⟩ := lohi_step hk (negM_lt xs k)
  rw [if_neg h0] at p3
  exact .inr ⟨by rw [negM_yes hn]; exact p1, by rw [negM_yes hn, p3], by rw [negM_yes hn, p2], rfl, by rw [negM_yes hn]⟩

theorem l08Step_zero (m q : Value) (M : List (List Int)) (Q : List Int) (s r : Int) (w : World) (h1 : PM.Rows w m M) (h2 : Ints w q Q) (hp : isPB M Q = true) (hD : dt M.length (colS M s) = 0) :
    Calls Tryd.prog 78 #[.agg #[m, q], .int .i64 s, .int .i64 r] w fun e w' => e = .returned (.tuple #[.int .i64 s, .bool false, .bool false]) ∧ Below w.heap.size w w' := by
  have g1 := fun (w' : World) (h : Below w.heap.size w w') => h1.below h
  have g2 := fun (w' : World) (h : Below w.heap.size w w') => h2.below h
  obtain ⟨a1, c1, rfl, _⟩ := h1
  obtain ⟨a2, c2, rfl, _⟩ := h2
  have HPZ := Lib.hid (fun (w' : World) (hb : Below w.heap.size w w') => l01Point_zero _ _ M Q s w' (g1 _ hb) (g2 _ hb) hp hD)
  clear hp hD
  go_enter Tryd.func78, Tryd.ntmps78
  go_wp2_with fail
  refine (HPZ.out _ (by (repeat' (first | (with_reducible exact Below.refl _ _) | (with_reducible assumption) | (with_reducible refine Below.alloc ?_ ?_ _) | (with_reducible refine Below.drew ?_) | (with_reducible refine below_drewN ?_ _) | (with_reducible refine Below.setCell ?_ ?_ _) | (with_reducible refine Below.trans ?_ (Below.mono (by with_reducible assumption) ?_)) | (with_reducible exact Below.size (by with_reducible assumption)) | go_size)))).mono ?_; rintro e w1 ⟨rfl, hb1⟩; obtain ⟨hc_hb1, hf_hb1⟩ := bcell hb1; obtain ⟨hcA_hb1, hfA_hb1⟩ := bcellG (W0 := w) hb1 (by (repeat' (first | (with_reducible exact Below.refl _ _) | (with_reducible assumption) | (with_reducible refine Below.alloc ?_ ?_ _) | (with_reducible refine Below.drew ?_) | (with_reducible refine below_drewN ?_ _) | (with_reducible refine Below.setCell ?_ ?_ _) | (with_reducible refine Below.trans ?_ (Below.mono (by with_reducible assumption) ?_)) | (with_reducible exact Below.size (by with_reducible assumption)) | go_size))); have hz_hb1 := hb1.size; (try simp at hz_hb1); (try simp only [Nat.add_one_le_iff] at hz_hb1); have hz0_hb1 : w.heap.size < w1.heap.size := (by omega)
  go_wp2_with fail
  go_ret3
  exact ⟨rfl, by (repeat' (first | (with_reducible exact Below.refl _ _) | (with_reducible assumption) | (with_reducible refine Below.alloc ?_ ?_ _) | (with_reducible refine Below.drew ?_) | (with_reducible refine below_drewN ?_ _) | (with_reducible refine Below.setCell ?_ ?_ _) | (with_reducible refine Below.trans ?_ (Below.mono (by with_reducible assumption) ?_)) | (with_reducible exact Below.size (by with_reducible assumption)) | go_size))⟩

set_option maxHeartbeats 2000000 in
theorem l08Step_any (m q : Value) (M : List (List Int)) (Q : List Int) (s r : Int) (w : World) (h1 : PM.Rows w m M) (h2 : Ints w q Q) (hp : isPB M Q = true) (hr0 : 0 ≤ r) (hr1 : r ≤ 3) (hD : dt M.length (colS M s) ≠ 0) (go : Bool) (S : Int) (hgo : nonneg (ptL M Q s) = !go) (hS : S = if go = true then stpS M Q r s else s) :
    Calls Tryd.prog 78 #[.agg #[m, q], .int .i64 s, .int .i64 r] w fun e w' => e = .returned (.tuple #[.int .i64 S, .bool go, .bool true]) ∧ Below w.heap.size w w' := by
  have g1 := fun (w' : World) (h : Below w.heap.size w w') => h1.below h
  have g2 := fun (w' : World) (h : Below w.heap.size w w') => h2.below h
  obtain ⟨a1, c1, rfl, _⟩ := h1
  obtain ⟨a2, c2, rfl, _⟩ := h2
  have f1 := (isPB_facts hp).1
  have f2 := (isPB_facts hp).2.1
  have HPK := Lib.hid (fun (w' : World) (hb : Below w.heap.size w w') => l01Point_ok _ _ M Q s w' (g1 _ hb) (g2 _ hb) hp hD)
  obtain ⟨n, hn⟩ : ∃ n, n = M.length := ⟨_, rfl⟩
  have hnn := negM_nonneg (M := M) (Q := Q) (s := s)
  have hst : stpS M Q r s = bits BinOp.xor IntKind.i64 s ((exM r (ptL M Q s) n : Nat) : Int) := by rw [hn]; rfl
  have hF := fun j (hj : j < n) => ptL_isF hp hD j (by omega)
  have HLL := Lib.hid (show n = (ptL M Q s).length by rw [ptL_length, hn])
  rw [← hn] at HPK f1 f2 g1 hnn ⊢
  generalize ptL M Q s = xs at *
  have HF := Lib.hid hF
  have HS := Lib.hid (And.intro hS hst)
  have HN := Lib.hid (And.intro hgo hnn)
  have HP := Lib.hid (fun j (hj : j < n) => show 0 < (xs.getD j (0, 0)).2 by have := FM.isF_yes (hF j hj); omega)
  clear hp hD hn hnn hst hF hS hgo
  go_enter Tryd.func78, Tryd.ntmps78
  go_wp2_with fail
  refine (HPK.out _ (by (repeat' (first | (with_reducible exact Below.refl _ _) | (with_reducible assumption) | (with_reducible refine Below.alloc ?_ ?_ _) | (with_reducible refine Below.drew ?_) | (with_reducible refine below_drewN ?_ _) | (with_reducible refine Below.setCell ?_ ?_ _) | (with_reducible refine Below.trans ?_ (Below.mono (by with_reducible assumption) ?_)) | (with_reducible exact Below.size (by with_reducible assumption)) | go_size)))).mono ?_; rintro e w1 ⟨g, c, rfl, hf1, hb1⟩; obtain ⟨hc_hb1, hf_hb1⟩ := bcell hb1; obtain ⟨hcA_hb1, hfA_hb1⟩ := bcellG (W0 := w) hb1 (by (repeat' (first | (with_reducible exact Below.refl _ _) | (with_reducible assumption) | (with_reducible refine Below.alloc ?_ ?_ _) | (with_reducible refine Below.drew ?_) | (with_reducible refine below_drewN ?_ _) | (with_reducible refine Below.setCell ?_ ?_ _) | (with_reducible refine Below.trans ?_ (Below.mono (by with_reducible assumption) ?_)) | (with_reducible exact Below.size (by with_reducible assumption)) | go_size))); have hz_hb1 := hb1.size; (try simp at hz_hb1); (try simp only [Nat.add_one_le_iff] at hz_hb1); have hz0_hb1 : w.heap.size < w1.heap.size := (by omega)
  have hw1 : Below w.heap.size w w1 := by (repeat' (first | (with_reducible exact Below.refl _ _) | (with_reducible assumption) | (with_reducible refine Below.alloc ?_ ?_ _) | (with_reducible refine Below.drew ?_) | (with_reducible refine below_drewN ?_ _) | (with_reducible refine Below.setCell ?_ ?_ _) | (with_reducible refine Below.trans ?_ (Below.mono (by with_reducible assumption) ?_)) | (with_reducible exact Below.size (by with_reducible assumption)) | go_size))
  have hgl : g < w1.heap.size := by obtain ⟨_, _, hv, _, hl, _⟩ := hf1; simp at hv; omega
  have HO := Lib.hid hf1.own
  clear hf1 hc_hb1 hf_hb1 hcA_hb1 hfA_hb1 hz_hb1 hz0_hb1 hb1
  go_wp2_with fail
  go_loopw [11, 12, 13, 14, 15] (fun f l t a i wr => ∃ k : Nat, k ≤ n ∧ i = .int .i64 k ∧ StV xs k f l t a ∧ Below w1.heap.size w1 wr) (fun _ _ _ _ i _ => n - (intOf i).toNat)
  case atStart => exact ⟨0, Nat.zero_le _, rfl, StV.zero xs, Below.refl _ _⟩
  case round =>
    obtain ⟨k, hk, rfl, hV, hB⟩ := hrel
    by_cases hlt : k < n
    · have ho := HO.out.below hB hgl
      have c0 := ho.cell0 HLL.out hlt
      have c1 := ho.cell1 HLL.out hlt
      have HB := Lib.hid hB
      have hx := HF.out k hlt
      have hk5 : k < 5 := by omega
      have hps : ∀ j, j < k + 1 → 0 < (xs.getD j (0, 0)).2 := fun j hj => HP.out j (by omega)
      have hgr : g < wr.heap.size := Nat.lt_of_lt_of_le hgl hB.size
      have hN := negM_lt xs k
      have hp0 := pow_le_32 (n := k) (by omega)
      have hp1 := pow_le_32 (n := k + 1) (by omega)
      have h2k : (2 : Nat) ^ k < 2 ^ (k + 1) := Nat.pow_lt_pow_right (by decide) (by omega)
      have hor := ob_nat (negM xs k) (2 ^ k) (by omega) (by omega)
      have hsh : ((2 ^ k : Nat) : Int) = (2 : Int) ^ k := by norm_cast
      rw [hsh] at hor
      have hpw : wrap64 ((2 : Int) ^ k) = (2 : Int) ^ k := by rw [← hsh]; unfold wrap64; omega
      have hskip := fun h => StV.skip hV hps h
      have HSK := Lib.hid hskip
      have hk0 : (0 : Int) ≤ (k : Int) := by omega
      by_cases hneg : (xs.getD k (0, 0)).1 < 0
      case neg =>
        have HL := Lib.hid (show decide ((xs.getD k (0, 0)).1 < 0) = false from decide_eq_false hneg)
        have HV := Lib.hid (hskip hneg)
        generalize (xs.getD k (0, 0)).1 = x at *
        generalize (xs.getD k (0, 0)).2 = y at *
        clear hV hskip hor hsh hpw ho hB hx hps hN hp0 hp1 h2k hneg HSK
        go_wp2_with fail
        refine (l08Less_any x y _).mono ?_; rw [HL.out]; rintro e w3 ⟨rfl, hb3⟩
        go_wp2_with fail
        go_roundw
        case rel => exact ⟨k + 1, by omega, by go_num, HV.out, HB.out.trans (hb3.mono HB.out.size)⟩
        case measure => simp [intOf]; omega
      case pos =>
        have HL := Lib.hid (show decide ((xs.getD k (0, 0)).1 < 0) = true from decide_eq_true hneg)
        have HNEG := Lib.hid hneg
        rcases hV with ⟨h0, rfl, rfl, rfl, rfl⟩ | ⟨h0, rfl, rfl, rfl, rfl⟩
        · have HV := Lib.hid (StV.first hk5 h0 hps hneg)
          rw [h0, Nat.zero_or, hsh] at hor
          have hor0 : bits BinOp.or IntKind.i64 0 ((2 : Int) ^ k) = (2 : Int) ^ k := hor
          have HOR := Lib.hid hor0
          generalize (xs.getD k (0, 0)).1 = x at *
          generalize (xs.getD k (0, 0)).2 = y at *
          clear hskip hor hor0 hsh ho hB hx hps hN hp0 hp1 h2k hneg HSK HNEG h0
          go_wp2_with fail
          refine (l08Less_any x y _).mono ?_; rw [HL.out]; rintro e w3 ⟨rfl, hb3⟩
          go_wp2_with fail
          go_quiet (fail)
          go_wp2_with fail
          rw [HOR.out]
          go_roundw
          case rel => exact ⟨k + 1, by omega, by go_num, HV.out, HB.out.trans ((below_drewN hb3 _).mono HB.out.size)⟩
          case measure => simp [intOf]; omega
        · have HV := Lib.hid (StV.more hk5 h0 hneg)
          have HOR := Lib.hid hor
          have hkp : 0 < k := by
            rcases Nat.eq_zero_or_pos k with e | e
            · subst e; exact absurd rfl h0
            · exact e
          have hls := lsI_lt xs k hkp
          have d0 := ho.cell0 HLL.out (show lsI xs k < n by omega)
          have d1 := ho.cell1 HLL.out (show lsI xs k < n by omega)
          have hz := HF.out (lsI xs k) (by omega)
          have hyes := lsI_yes (xs := xs) (k := k) (by omega)
          have hno := lsI_no (xs := xs) (k := k) (by omega)
          unfold lessF at hyes hno
          obtain ⟨T, hT⟩ : ∃ T, T = lsI xs (k + 1) := ⟨_, rfl⟩
          rw [← hT] at hyes hno HV
          generalize (xs.getD (lsI xs k) (0, 0)).1 = a at *
          generalize (xs.getD (lsI xs k) (0, 0)).2 = b at *
          generalize lsI xs k = ls at *
          generalize (xs.getD k (0, 0)).1 = x at *
          generalize (xs.getD k (0, 0)).2 = y at *
          generalize loB (negM xs k) = lo at *
          generalize hiB (negM xs k) = hi at *
          have HLS := Lib.hid (fun w => ul01Less_any x y a b w hx hz)
          have HY := Lib.hid hyes
          have HNO := Lib.hid hno
          have r0 : ∀ w', Below wr.heap.size wr w' → w'.cell? ⟨g, k * 2, none⟩ = some (.int .i64 x) := fun w' h => (h.cell (p := ⟨g, k * 2, none⟩) hgr).trans c0
          have r1 : ∀ w', Below wr.heap.size wr w' → w'.cell? ⟨g, k * 2 + 1, none⟩ = some (.int .i64 y) := fun w' h => (h.cell (p := ⟨g, k * 2 + 1, none⟩) hgr).trans c1
          have r2 : ∀ w', Below wr.heap.size wr w' → w'.cell? ⟨g, ls * 2, none⟩ = some (.int .i64 a) := fun w' h => (h.cell (p := ⟨g, ls * 2, none⟩) hgr).trans d0
          have r3 : ∀ w', Below wr.heap.size wr w' → w'.cell? ⟨g, ls * 2 + 1, none⟩ = some (.int .i64 b) := fun w' h => (h.cell (p := ⟨g, ls * 2 + 1, none⟩) hgr).trans d1
          have hlo : ¬ ((lo : Nat) : Int) < 0 := by omega
          have hls0 : ¬ ((ls : Nat) : Int) < 0 := by omega
          have hls1 : (0 : Int) ≤ ((ls : Nat) : Int) := by omega
          have hls2 : ((ls : Nat) : Int) < n := by omega
          have hkn : (k : Int) < n := by omega
          clear hskip hor hsh ho hB hx hz hps hN hp0 hp1 h2k hneg HSK HNEG h0 hyes hno hT hkp
          go_wp2_with fail
          refine (l08Less_any x y _).mono ?_; rw [HL.out]; rintro e w3 ⟨rfl, hb3⟩
          have hz3 := hb3.size
          by_cases hc : x * b < a * y
          · have HD := Lib.hid (show decide (x * b < a * y) = true from decide_eq_true hc)
            go_wp2_with fail
            go_region_held3 (fun w' => Below wr.heap.size wr w') ((repeat' (first | (with_reducible exact Below.refl _ _) | (with_reducible assumption) | (with_reducible refine Below.alloc ?_ ?_ _) | (with_reducible refine Below.drew ?_) | (with_reducible refine below_drewN ?_ _) | (with_reducible refine Below.setCell ?_ ?_ _) | (with_reducible refine Below.trans ?_ (Below.mono (by with_reducible assumption) ?_)) | (with_reducible exact Below.size (by with_reducible assumption)) | go_size)))
              (first | (go_at_call 110; refine (HLS.out _).mono ?_; rw [HD.out]; rintro e w8 ⟨rfl, hb8⟩; have hS8 : Below wr.heap.size wr w8 := (by (repeat' (first | (with_reducible exact Below.refl _ _) | (with_reducible assumption) | (with_reducible refine Below.alloc ?_ ?_ _) | (with_reducible refine Below.drew ?_) | (with_reducible refine below_drewN ?_ _) | (with_reducible refine Below.setCell ?_ ?_ _) | (with_reducible refine Below.trans ?_ (Below.mono (by with_reducible assumption) ?_)) | (with_reducible exact Below.size (by with_reducible assumption)) | go_size)))))
            go_wp2_with fail
            rw [HOR.out]
            go_roundw
            case rel => exact ⟨k + 1, by omega, by go_num, by have := HV.out; rw [HY.out hc] at this; exact this, HB.out.trans (hS8.mono HB.out.size)⟩
            case measure => simp [intOf]; omega
          · have HD := Lib.hid (show decide (x * b < a * y) = false from decide_eq_false hc)
            have HN' := Lib.hid (HNO.out (by omega))
            clear hc
            go_wp2_with fail
            go_region_held3 (fun w' => Below wr.heap.size wr w') ((repeat' (first | (with_reducible exact Below.refl _ _) | (with_reducible assumption) | (with_reducible refine Below.alloc ?_ ?_ _) | (with_reducible refine Below.drew ?_) | (with_reducible refine below_drewN ?_ _) | (with_reducible refine Below.setCell ?_ ?_ _) | (with_reducible refine Below.trans ?_ (Below.mono (by with_reducible assumption) ?_)) | (with_reducible exact Below.size (by with_reducible assumption)) | go_size)))
              (first | (go_at_call 110; refine (HLS.out _).mono ?_; rw [HD.out]; rintro e w8 ⟨rfl, hb8⟩; have hS8 : Below wr.heap.size wr w8 := (by (repeat' (first | (with_reducible exact Below.refl _ _) | (with_reducible assumption) | (with_reducible refine Below.alloc ?_ ?_ _) | (with_reducible refine Below.drew ?_) | (with_reducible refine below_drewN ?_ _) | (with_reducible refine Below.setCell ?_ ?_ _) | (with_reducible refine Below.trans ?_ (Below.mono (by with_reducible assumption) ?_)) | (with_reducible exact Below.size (by with_reducible assumption)) | go_size)))))
            go_wp2_with fail
            rw [HOR.out]
            go_roundw
            case rel => exact ⟨k + 1, by omega, by go_num, by have := HV.out; rw [HN'.out] at this; exact this, HB.out.trans (hS8.mono HB.out.size)⟩
            case measure => simp [intOf]; omega
    · obtain rfl : k = n := by omega
      have HB := Lib.hid hB
      rcases hV with ⟨h0, rfl, rfl, rfl, rfl⟩ | ⟨h0, rfl, rfl, rfl, rfl⟩
      · have hgo : go = false := by
          have := HN.out.1
          rw [HN.out.2.1 h0] at this
          cases go
          · rfl
          · cases this
        have hSS : S = s := by rw [HS.out.1, hgo]; simp
        subst hgo hSS
        clear h0 hB
        go_wp2_with fail
        go_ret3
        exact ⟨rfl, hw1.trans (HB.out.mono hw1.size)⟩
      · have hgo : go = true := by
          have := HN.out.1
          cases go
          · exact absurd (HN.out.2.2 this) h0
          · rfl
        have hSS : S = bits BinOp.xor IntKind.i64 s ((exM r xs k : Nat) : Int) := by rw [HS.out.1, hgo, if_pos rfl, HS.out.2]
        obtain ⟨hlo, hhi⟩ := lohi_lt f2 (negM_lt xs k) h0
        have hls := lsI_lt xs k (by omega)
        have e0 : r = 0 → exM r xs k = 2 ^ loB (negM xs k) := fun h => by unfold exM; rw [if_pos h]
        have e1 : r = 1 → exM r xs k = 2 ^ hiB (negM xs k) := fun h => by unfold exM; rw [if_neg (by omega), if_pos h]
        have e2 : r = 2 → exM r xs k = 2 ^ lsI xs k := fun h => by unfold exM; rw [if_neg (by omega), if_neg (by omega), if_pos h]
        have e3 : r = 3 → exM r xs k = negM xs k := fun h => by unfold exM; rw [if_neg (by omega), if_neg (by omega), if_neg (by omega)]
        subst hgo
        generalize exM r xs k = X at *
        generalize loB (negM xs k) = lo at *
        generalize hiB (negM xs k) = hi at *
        generalize lsI xs k = ls at *
        generalize negM xs k = ng at *
        have hlo0 : ¬ ((lo : Nat) : Int) < 0 := by omega
        have HSS := Lib.hid hSS
        clear hSS hB h0 HN HS
        obtain rfl | rfl | rfl | rfl : r = 0 ∨ r = 1 ∨ r = 2 ∨ r = 3 := by omega
        · have HE := Lib.hid (e0 rfl)
          clear e0 e1 e2 e3 hr0 hr1
          obtain rfl | rfl | rfl | rfl | rfl : lo = 0 ∨ lo = 1 ∨ lo = 2 ∨ lo = 3 ∨ lo = 4 := by omega
          all_goals
            go_wp2_with fail
            go_ret3
            exact ⟨by rw [HSS.out, HE.out]; rfl, hw1.trans (HB.out.mono hw1.size)⟩
        · have HE := Lib.hid (e1 rfl)
          clear e0 e1 e2 e3 hr0 hr1
          obtain rfl | rfl | rfl | rfl | rfl : hi = 0 ∨ hi = 1 ∨ hi = 2 ∨ hi = 3 ∨ hi = 4 := by omega
          all_goals
            go_wp2_with fail
            go_ret3
            exact ⟨by rw [HSS.out, HE.out]; rfl, hw1.trans (HB.out.mono hw1.size)⟩
        · have HE := Lib.hid (e2 rfl)
          clear e0 e1 e2 e3 hr0 hr1
          obtain rfl | rfl | rfl | rfl | rfl : ls = 0 ∨ ls = 1 ∨ ls = 2 ∨ ls = 3 ∨ ls = 4 := by omega
          all_goals
            go_wp2_with fail
            go_ret3
            exact ⟨by rw [HSS.out, HE.out]; rfl, hw1.trans (HB.out.mono hw1.size)⟩
        · have HE := Lib.hid (e3 rfl)
          clear e0 e1 e2 e3 hr0 hr1
          go_wp2_with fail
          go_ret3
          exact ⟨by rw [HSS.out, HE.out]; rfl, hw1.trans (HB.out.mono hw1.size)⟩

set_option maxHeartbeats 1000000 in
theorem specStepByRule_any (m q : Value) (M : List (List Int)) (Q : List Int) (s r : Int) (w : World) (h1 : PM.Rows w m M) (h2 : Ints w q Q) :
    Calls Tryd.prog 28 #[.agg #[m, q], .int .i64 s, .int .i64 r] w (OutN w (stepOut M Q s r)) := by
  have g1 := fun (w' : World) (h : Below w.heap.size w w') => h1.below h
  have g2 := fun (w' : World) (h : Below w.heap.size w w') => h2.below h
  obtain ⟨a1, c1, rfl, _⟩ := h1
  obtain ⟨a2, c2, rfl, _⟩ := h2
  rcases ruleCode_cases M Q s r with h | h | ⟨h, hs, hp, hs0, hs1, hr0, hr1⟩
  case' inr.inr =>
    have HC := Lib.hid h
    by_cases hD : dt M.length (colS M s) = 0
    · rw [stepOut_zero h hD]
      have HPZ := Lib.hid (fun (w' : World) (hb : Below w.heap.size w w') => l08Step_zero _ _ M Q s r w' (g1 _ hb) (g2 _ hb) hp hD)
      clear h hp hs0 hs1 hs hD
      go_enter Tryd.func28, Tryd.ntmps28
      go_wp2_with fail
      refine (l08Code_any _ _ M Q s r _ (g1 _ (by (repeat' (first | (with_reducible exact Below.refl _ _) | (with_reducible assumption) | (with_reducible refine Below.alloc ?_ ?_ _) | (with_reducible refine Below.drew ?_) | (with_reducible refine below_drewN ?_ _) | (with_reducible refine Below.setCell ?_ ?_ _) | (with_reducible refine Below.trans ?_ (Below.mono (by with_reducible assumption) ?_)) | (with_reducible exact Below.size (by with_reducible assumption)) | go_size)))) (g2 _ (by (repeat' (first | (with_reducible exact Below.refl _ _) | (with_reducible assumption) | (with_reducible refine Below.alloc ?_ ?_ _) | (with_reducible refine Below.drew ?_) | (with_reducible refine below_drewN ?_ _) | (with_reducible refine Below.setCell ?_ ?_ _) | (with_reducible refine Below.trans ?_ (Below.mono (by with_reducible assumption) ?_)) | (with_reducible exact Below.size (by with_reducible assumption)) | go_size))))).mono ?_; rw [HC.out]; rintro e w1 ⟨rfl, hb1⟩; obtain ⟨hc_hb1, hf_hb1⟩ := bcell hb1; obtain ⟨hcA_hb1, hfA_hb1⟩ := bcellG (W0 := w) hb1 (by (repeat' (first | (with_reducible exact Below.refl _ _) | (with_reducible assumption) | (with_reducible refine Below.alloc ?_ ?_ _) | (with_reducible refine Below.drew ?_) | (with_reducible refine below_drewN ?_ _) | (with_reducible refine Below.setCell ?_ ?_ _) | (with_reducible refine Below.trans ?_ (Below.mono (by with_reducible assumption) ?_)) | (with_reducible exact Below.size (by with_reducible assumption)) | go_size))); have hz_hb1 := hb1.size; (try simp at hz_hb1); (try simp only [Nat.add_one_le_iff] at hz_hb1); have hz0_hb1 : w.heap.size < w1.heap.size := (by omega)
      have hw1 : Below w.heap.size w w1 := by (repeat' (first | (with_reducible exact Below.refl _ _) | (with_reducible assumption) | (with_reducible refine Below.alloc ?_ ?_ _) | (with_reducible refine Below.drew ?_) | (with_reducible refine below_drewN ?_ _) | (with_reducible refine Below.setCell ?_ ?_ _) | (with_reducible refine Below.trans ?_ (Below.mono (by with_reducible assumption) ?_)) | (with_reducible exact Below.size (by with_reducible assumption)) | go_size))
      go_wp2_with fail
      refine (HPZ.out _ hw1).mono ?_; rintro e w2 ⟨rfl, hb2⟩
      go_wp2_with fail
      go_ret2
      exact ⟨rfl, hw1.trans (hb2.mono hw1.size)⟩
    cases hn : nonneg (ptL M Q s)
    case' true =>
      rw [stepOut_end h hD hn]
      have HPK := Lib.hid (fun (w' : World) (hb : Below w.heap.size w w') => l08Step_any _ _ M Q s r w' (g1 _ hb) (g2 _ hb) hp hr0 hr1 hD false s (by rw [hn]; rfl) (by simp))
    case' false =>
      rw [stepOut_ok h hD hn]
      have HPK := Lib.hid (fun (w' : World) (hb : Below w.heap.size w w') => l08Step_any _ _ M Q s r w' (g1 _ hb) (g2 _ hb) hp hr0 hr1 hD true (stpS M Q r s) (by rw [hn]; rfl) (by simp))
      generalize stpS M Q r s = S at *
    all_goals
      clear h hp hs0 hs1 hs hD hn
      go_enter Tryd.func28, Tryd.ntmps28
      go_wp2_with fail
      refine (l08Code_any _ _ M Q s r _ (g1 _ (by (repeat' (first | (with_reducible exact Below.refl _ _) | (with_reducible assumption) | (with_reducible refine Below.alloc ?_ ?_ _) | (with_reducible refine Below.drew ?_) | (with_reducible refine below_drewN ?_ _) | (with_reducible refine Below.setCell ?_ ?_ _) | (with_reducible refine Below.trans ?_ (Below.mono (by with_reducible assumption) ?_)) | (with_reducible exact Below.size (by with_reducible assumption)) | go_size)))) (g2 _ (by (repeat' (first | (with_reducible exact Below.refl _ _) | (with_reducible assumption) | (with_reducible refine Below.alloc ?_ ?_ _) | (with_reducible refine Below.drew ?_) | (with_reducible refine below_drewN ?_ _) | (with_reducible refine Below.setCell ?_ ?_ _) | (with_reducible refine Below.trans ?_ (Below.mono (by with_reducible assumption) ?_)) | (with_reducible exact Below.size (by with_reducible assumption)) | go_size))))).mono ?_; rw [HC.out]; rintro e w1 ⟨rfl, hb1⟩; obtain ⟨hc_hb1, hf_hb1⟩ := bcell hb1; obtain ⟨hcA_hb1, hfA_hb1⟩ := bcellG (W0 := w) hb1 (by (repeat' (first | (with_reducible exact Below.refl _ _) | (with_reducible assumption) | (with_reducible refine Below.alloc ?_ ?_ _) | (with_reducible refine Below.drew ?_) | (with_reducible refine below_drewN ?_ _) | (with_reducible refine Below.setCell ?_ ?_ _) | (with_reducible refine Below.trans ?_ (Below.mono (by with_reducible assumption) ?_)) | (with_reducible exact Below.size (by with_reducible assumption)) | go_size))); have hz_hb1 := hb1.size; (try simp at hz_hb1); (try simp only [Nat.add_one_le_iff] at hz_hb1); have hz0_hb1 : w.heap.size < w1.heap.size := (by omega)
      have hw1 : Below w.heap.size w w1 := by (repeat' (first | (with_reducible exact Below.refl _ _) | (with_reducible assumption) | (with_reducible refine Below.alloc ?_ ?_ _) | (with_reducible refine Below.drew ?_) | (with_reducible refine below_drewN ?_ _) | (with_reducible refine Below.setCell ?_ ?_ _) | (with_reducible refine Below.trans ?_ (Below.mono (by with_reducible assumption) ?_)) | (with_reducible exact Below.size (by with_reducible assumption)) | go_size))
      go_wp2_with fail
      refine (HPK.out _ hw1).mono ?_; rintro e w2 ⟨rfl, hb2⟩
      go_wp2_with fail
      go_ret2
      exact ⟨rfl, hw1.trans (hb2.mono hw1.size)⟩
  all_goals
    rw [stepOut_err h (by decide)]
    have HC := Lib.hid h
    clear h
    go_enter Tryd.func28, Tryd.ntmps28
    go_wp2_with fail
    refine (l08Code_any _ _ M Q s r _ (g1 _ (by (repeat' (first | (with_reducible exact Below.refl _ _) | (with_reducible assumption) | (with_reducible refine Below.alloc ?_ ?_ _) | (with_reducible refine Below.drew ?_) | (with_reducible refine below_drewN ?_ _) | (with_reducible refine Below.setCell ?_ ?_ _) | (with_reducible refine Below.trans ?_ (Below.mono (by with_reducible assumption) ?_)) | (with_reducible exact Below.size (by with_reducible assumption)) | go_size)))) (g2 _ (by (repeat' (first | (with_reducible exact Below.refl _ _) | (with_reducible assumption) | (with_reducible refine Below.alloc ?_ ?_ _) | (with_reducible refine Below.drew ?_) | (with_reducible refine below_drewN ?_ _) | (with_reducible refine Below.setCell ?_ ?_ _) | (with_reducible refine Below.trans ?_ (Below.mono (by with_reducible assumption) ?_)) | (with_reducible exact Below.size (by with_reducible assumption)) | go_size))))).mono ?_; rw [HC.out]; rintro e w1 ⟨rfl, hb1⟩; obtain ⟨hc_hb1, hf_hb1⟩ := bcell hb1; obtain ⟨hcA_hb1, hfA_hb1⟩ := bcellG (W0 := w) hb1 (by (repeat' (first | (with_reducible exact Below.refl _ _) | (with_reducible assumption) | (with_reducible refine Below.alloc ?_ ?_ _) | (with_reducible refine Below.drew ?_) | (with_reducible refine below_drewN ?_ _) | (with_reducible refine Below.setCell ?_ ?_ _) | (with_reducible refine Below.trans ?_ (Below.mono (by with_reducible assumption) ?_)) | (with_reducible exact Below.size (by with_reducible assumption)) | go_size))); have hz_hb1 := hb1.size; (try simp at hz_hb1); (try simp only [Nat.add_one_le_iff] at hz_hb1); have hz0_hb1 : w.heap.size < w1.heap.size := (by omega)
    go_wp2_with fail
    go_ret2
    exact ⟨rfl, by (repeat' (first | (with_reducible exact Below.refl _ _) | (with_reducible assumption) | (with_reducible refine Below.alloc ?_ ?_ _) | (with_reducible refine Below.drew ?_) | (with_reducible refine below_drewN ?_ _) | (with_reducible refine Below.setCell ?_ ?_ _) | (with_reducible refine Below.trans ?_ (Below.mono (by with_reducible assumption) ?_)) | (with_reducible exact Below.size (by with_reducible assumption)) | go_size))⟩
set_option maxHeartbeats 4000000 in
theorem law_FnExactStepByRule (m q : Value) (M : List (List Int)) (Q : List Int) (s r : Int) (w : World) (hG : Tab8 w) (h1 : PM.Rows w m M) (h2 : Ints w q Q) :
    Calls Tryd.prog 6 #[.agg #[m, q], .int .i64 s, .int .i64 r] w fun e w' => e = .returned (.bool true) ∧ Below w.heap.size w w' := by
  have g1 := fun (w' : World) (h : Below w.heap.size w w') => h1.below h
  have gl := fun (w' : World) (h : Below w.heap.size w w') => hG.below h
  clear hG
  have g2 := fun (w' : World) (h : Below w.heap.size w w') => h2.below h
  have I1 := Lib.hid (rows_I64 h1)
  have I2 := Lib.hid (ints_I64 h2)
  obtain ⟨a1, c1, rfl, _⟩ := h1
  obtain ⟨a2, c2, rfl, _⟩ := h2
  by_cases hz : szP M Q 1048576 < 0
  · have e1 := szP_neg hz
    have E1 := Lib.hid e1
    clear hz e1
    go_enter Tryd.func6, Tryd.ntmps6
    go_wp2_with fail
    refine (szProblem_any _ _ M Q _ (g1 _ (by (repeat' (first | (with_reducible exact Below.refl _ _) | (with_reducible assumption) | (with_reducible refine Below.alloc ?_ ?_ _) | (with_reducible refine Below.drew ?_) | (with_reducible refine below_drewN ?_ _) | (with_reducible refine Below.setCell ?_ ?_ _) | (with_reducible refine Below.trans ?_ (Below.mono (by with_reducible assumption) ?_)) | (with_reducible exact Below.size (by with_reducible assumption)) | go_size)))) (g2 _ (by (repeat' (first | (with_reducible exact Below.refl _ _) | (with_reducible assumption) | (with_reducible refine Below.alloc ?_ ?_ _) | (with_reducible refine Below.drew ?_) | (with_reducible refine below_drewN ?_ _) | (with_reducible refine Below.setCell ?_ ?_ _) | (with_reducible refine Below.trans ?_ (Below.mono (by with_reducible assumption) ?_)) | (with_reducible exact Below.size (by with_reducible assumption)) | go_size))))).mono ?_; rw [E1.out]; rintro e w1 ⟨rfl, hb1⟩; obtain ⟨hc_hb1, hf_hb1⟩ := bcell hb1; obtain ⟨hcA_hb1, hfA_hb1⟩ := bcellG (W0 := w) hb1 (by (repeat' (first | (with_reducible exact Below.refl _ _) | (with_reducible assumption) | (with_reducible refine Below.alloc ?_ ?_ _) | (with_reducible refine Below.drew ?_) | (with_reducible refine below_drewN ?_ _) | (with_reducible refine Below.setCell ?_ ?_ _) | (with_reducible refine Below.trans ?_ (Below.mono (by with_reducible assumption) ?_)) | (with_reducible exact Below.size (by with_reducible assumption)) | go_size))); have hz_hb1 := hb1.size; (try simp at hz_hb1); (try simp only [Nat.add_one_le_iff] at hz_hb1); have hz0_hb1 : w.heap.size < w1.heap.size := (by omega)
    go_wp2_with fail
    go_ret
    refine ⟨rfl, ?_⟩
    (repeat' (first | (with_reducible exact Below.refl _ _) | (with_reducible assumption) | (with_reducible refine Below.alloc ?_ ?_ _) | (with_reducible refine Below.drew ?_) | (with_reducible refine below_drewN ?_ _) | (with_reducible refine Below.setCell ?_ ?_ _) | (with_reducible refine Below.trans ?_ (Below.mono (by with_reducible assumption) ?_)) | (with_reducible exact Below.size (by with_reducible assumption)) | go_size))
  obtain ⟨hn1, hn2⟩ := szP_fits hz
  have hle := szP_le M Q
  have HN1 := Lib.hid hn1
  have HN2 := Lib.hid hn2
  clear hn1 hn2
  have hspec := fun (m q : Value) (w : World) (h1 : PM.Rows w m M) (h2 : Ints w q Q) => specStepByRule_any m q M Q s r w h1 h2
  have himpl := fun (m q : Value) (w : World) (hg : Tab8 w) (h1 : PM.Rows w m M) (h2 : Ints w q Q) => implStepByRule_any m q M Q s r w hg h1 h2
  generalize stepOut M Q s r = o at *
  obtain ⟨O, code⟩ := o
  have HS := Lib.hid hspec
  have HI := Lib.hid himpl
  clear hspec himpl
  go_enter Tryd.func6, Tryd.ntmps6
  go_wp2_with fail
  refine (szProblem_any _ _ M Q _ (g1 _ (by (repeat' (first | (with_reducible exact Below.refl _ _) | (with_reducible assumption) | (with_reducible refine Below.alloc ?_ ?_ _) | (with_reducible refine Below.drew ?_) | (with_reducible refine below_drewN ?_ _) | (with_reducible refine Below.setCell ?_ ?_ _) | (with_reducible refine Below.trans ?_ (Below.mono (by with_reducible assumption) ?_)) | (with_reducible exact Below.size (by with_reducible assumption)) | go_size)))) (g2 _ (by (repeat' (first | (with_reducible exact Below.refl _ _) | (with_reducible assumption) | (with_reducible refine Below.alloc ?_ ?_ _) | (with_reducible refine Below.drew ?_) | (with_reducible refine below_drewN ?_ _) | (with_reducible refine Below.setCell ?_ ?_ _) | (with_reducible refine Below.trans ?_ (Below.mono (by with_reducible assumption) ?_)) | (with_reducible exact Below.size (by with_reducible assumption)) | go_size))))).mono ?_; rintro e w1 ⟨rfl, hb1⟩; obtain ⟨hc_hb1, hf_hb1⟩ := bcell hb1; obtain ⟨hcA_hb1, hfA_hb1⟩ := bcellG (W0 := w) hb1 (by (repeat' (first | (with_reducible exact Below.refl _ _) | (with_reducible assumption) | (with_reducible refine Below.alloc ?_ ?_ _) | (with_reducible refine Below.drew ?_) | (with_reducible refine below_drewN ?_ _) | (with_reducible refine Below.setCell ?_ ?_ _) | (with_reducible refine Below.trans ?_ (Below.mono (by with_reducible assumption) ?_)) | (with_reducible exact Below.size (by with_reducible assumption)) | go_size))); have hz_hb1 := hb1.size; (try simp at hz_hb1); (try simp only [Nat.add_one_le_iff] at hz_hb1); have hz0_hb1 : w.heap.size < w1.heap.size := (by omega)
  generalize szP M Q 1048576 = left at *
  have hw1 : Below w.heap.size w w1 := by (repeat' (first | (with_reducible exact Below.refl _ _) | (with_reducible assumption) | (with_reducible refine Below.alloc ?_ ?_ _) | (with_reducible refine Below.drew ?_) | (with_reducible refine below_drewN ?_ _) | (with_reducible refine Below.setCell ?_ ?_ _) | (with_reducible refine Below.trans ?_ (Below.mono (by with_reducible assumption) ?_)) | (with_reducible exact Below.size (by with_reducible assumption)) | go_size))
  go_wp2_with fail
  refine (toProblem_out _ _ M Q _ (g1 _ (by (repeat' (first | (with_reducible exact Below.refl _ _) | (with_reducible assumption) | (with_reducible refine Below.alloc ?_ ?_ _) | (with_reducible refine Below.drew ?_) | (with_reducible refine below_drewN ?_ _) | (with_reducible refine Below.setCell ?_ ?_ _) | (with_reducible refine Below.trans ?_ (Below.mono (by with_reducible assumption) ?_)) | (with_reducible exact Below.size (by with_reducible assumption)) | go_size)))) (g2 _ (by (repeat' (first | (with_reducible exact Below.refl _ _) | (with_reducible assumption) | (with_reducible refine Below.alloc ?_ ?_ _) | (with_reducible refine Below.drew ?_) | (with_reducible refine below_drewN ?_ _) | (with_reducible refine Below.setCell ?_ ?_ _) | (with_reducible refine Below.trans ?_ (Below.mono (by with_reducible assumption) ?_)) | (with_reducible exact Below.size (by with_reducible assumption)) | go_size)))) HN1.out HN2.out).mono ?_; rintro e w2 ⟨gA, gB, us2, rfl, hr2, hb2⟩; obtain ⟨hc_hb2, hf_hb2⟩ := bcell hb2; obtain ⟨hcA_hb2, hfA_hb2⟩ := bcellG (W0 := w1) hb2 (by (repeat' (first | (with_reducible exact Below.refl _ _) | (with_reducible assumption) | (with_reducible refine Below.alloc ?_ ?_ _) | (with_reducible refine Below.drew ?_) | (with_reducible refine below_drewN ?_ _) | (with_reducible refine Below.setCell ?_ ?_ _) | (with_reducible refine Below.trans ?_ (Below.mono (by with_reducible assumption) ?_)) | (with_reducible exact Below.size (by with_reducible assumption)) | go_size))); have hz_hb2 := hb2.size; (try simp at hz_hb2); (try simp only [Nat.add_one_le_iff] at hz_hb2); have hz0_hb2 : w.heap.size < w2.heap.size := (by omega)
  have R2 := Lib.hid (hr2.reads I1.out I2.out)
  clear hr2
  have hw2 : Below w.heap.size w w2 := hw1.trans (hb2.mono hw1.size)
  go_wp2_with fail
  refine (HS.out _ _ _ R2.out.1 R2.out.2).mono ?_; rintro e w3 ⟨rfl, hb3⟩; dsimp only; obtain ⟨hc_hb3, hf_hb3⟩ := bcell hb3; obtain ⟨hcA_hb3, hfA_hb3⟩ := bcellG (W0 := w2) hb3 (by (repeat' (first | (with_reducible exact Below.refl _ _) | (with_reducible assumption) | (with_reducible refine Below.alloc ?_ ?_ _) | (with_reducible refine Below.drew ?_) | (with_reducible refine below_drewN ?_ _) | (with_reducible refine Below.setCell ?_ ?_ _) | (with_reducible refine Below.trans ?_ (Below.mono (by with_reducible assumption) ?_)) | (with_reducible exact Below.size (by with_reducible assumption)) | go_size))); have hz_hb3 := hb3.size; (try simp at hz_hb3); (try simp only [Nat.add_one_le_iff] at hz_hb3); have hz0_hb3 : w.heap.size < w3.heap.size := (by omega)
  clear R2
  have hw3 : Below w.heap.size w w3 := hw2.trans (hb3.mono hw2.size)
  go_wp2_with fail
  refine (toProblem_out _ _ M Q _ (g1 _ (by (repeat' (first | (with_reducible exact Below.refl _ _) | (with_reducible assumption) | (with_reducible refine Below.alloc ?_ ?_ _) | (with_reducible refine Below.drew ?_) | (with_reducible refine below_drewN ?_ _) | (with_reducible refine Below.setCell ?_ ?_ _) | (with_reducible refine Below.trans ?_ (Below.mono (by with_reducible assumption) ?_)) | (with_reducible exact Below.size (by with_reducible assumption)) | go_size)))) (g2 _ (by (repeat' (first | (with_reducible exact Below.refl _ _) | (with_reducible assumption) | (with_reducible refine Below.alloc ?_ ?_ _) | (with_reducible refine Below.drew ?_) | (with_reducible refine below_drewN ?_ _) | (with_reducible refine Below.setCell ?_ ?_ _) | (with_reducible refine Below.trans ?_ (Below.mono (by with_reducible assumption) ?_)) | (with_reducible exact Below.size (by with_reducible assumption)) | go_size)))) HN1.out HN2.out).mono ?_; rintro e w4 ⟨gC, gD, us4, rfl, hr4, hb4⟩; obtain ⟨hc_hb4, hf_hb4⟩ := bcell hb4; obtain ⟨hcA_hb4, hfA_hb4⟩ := bcellG (W0 := w3) hb4 (by (repeat' (first | (with_reducible exact Below.refl _ _) | (with_reducible assumption) | (with_reducible refine Below.alloc ?_ ?_ _) | (with_reducible refine Below.drew ?_) | (with_reducible refine below_drewN ?_ _) | (with_reducible refine Below.setCell ?_ ?_ _) | (with_reducible refine Below.trans ?_ (Below.mono (by with_reducible assumption) ?_)) | (with_reducible exact Below.size (by with_reducible assumption)) | go_size))); have hz_hb4 := hb4.size; (try simp at hz_hb4); (try simp only [Nat.add_one_le_iff] at hz_hb4); have hz0_hb4 : w.heap.size < w4.heap.size := (by omega)
  have HR4 := Lib.hid hr4
  clear hr4
  have hw4 : Below w.heap.size w w4 := hw3.trans (hb4.mono hw3.size)
  go_wp2_with fail
  have hr4a := HR4.out.below (w' := w4.alloc (.cells #[.slice (some ⟨gC, 0, none⟩) M.length M.length, .slice (some ⟨gD, 0, none⟩) Q.length Q.length] 29)) (B := w4.heap.size) ((Below.refl _ _).alloc (Nat.le_refl _) _) (Nat.le_refl _)
  have R4 := Lib.hid (hr4a.reads I1.out I2.out)
  clear hr4a
  refine (HI.out _ _ _ (gl _ (by (repeat' (first | (with_reducible exact Below.refl _ _) | (with_reducible assumption) | (with_reducible refine Below.alloc ?_ ?_ _) | (with_reducible refine Below.drew ?_) | (with_reducible refine below_drewN ?_ _) | (with_reducible refine Below.setCell ?_ ?_ _) | (with_reducible refine Below.trans ?_ (Below.mono (by with_reducible assumption) ?_)) | (with_reducible exact Below.size (by with_reducible assumption)) | go_size)))) R4.out.1 R4.out.2).mono ?_; rintro e w5 ⟨rfl, hb5⟩; dsimp only; obtain ⟨hc_hb5, hf_hb5⟩ := bcell hb5; obtain ⟨hcA_hb5, hfA_hb5⟩ := bcellG (W0 := w4) hb5 (by (repeat' (first | (with_reducible exact Below.refl _ _) | (with_reducible assumption) | (with_reducible refine Below.alloc ?_ ?_ _) | (with_reducible refine Below.drew ?_) | (with_reducible refine below_drewN ?_ _) | (with_reducible refine Below.setCell ?_ ?_ _) | (with_reducible refine Below.trans ?_ (Below.mono (by with_reducible assumption) ?_)) | (with_reducible exact Below.size (by with_reducible assumption)) | go_size))); have hz_hb5 := hb5.size; (try simp at hz_hb5); (try simp only [Nat.add_one_le_iff] at hz_hb5); have hz0_hb5 : w.heap.size < w5.heap.size := (by omega)
  have hz45 : w4.heap.size < w5.heap.size := by omega
  clear R4
  have hw45 : Below w4.heap.size w4 w5 := ((Below.refl w4.heap.size w4).alloc (Nat.le_refl _) _).trans (hb5.mono (by simp))
  have x50 : w5.cell? ⟨w4.heap.size, 0, none⟩ = some (.slice (some ⟨gC, 0, none⟩) M.length M.length) := by rw [hc_hb5 _ _ (by simp)]; simp
  have x51 : w5.cell? ⟨w4.heap.size, 1, none⟩ = some (.slice (some ⟨gD, 0, none⟩) Q.length Q.length) := by rw [hc_hb5 _ _ (by simp)]; simp
  have hw13 : Below w1.heap.size w1 w3 := hb2.trans (hb3.mono hb2.size)
  have hw35 : Below w3.heap.size w3 w5 := hb4.trans (hw45.mono hb4.size)
  have hw15 : Below w1.heap.size w1 w5 := hw13.trans (hw35.mono hw13.size)
  have hw5 : Below w.heap.size w w5 := hw3.trans (hw35.mono hw3.size)
  have p10 : w1.cell? ⟨w.heap.size, 0, none⟩ = some (.slice a1 M.length c1) := by rw [hc_hb1 _ _ (by simp)]; simp
  have p11 : w1.cell? ⟨w.heap.size, 1, none⟩ = some (.slice a2 Q.length c2) := by rw [hc_hb1 _ _ (by simp)]; simp
  have hvq : Vq w5 w.heap.size w4.heap.size (.slice a1 M.length c1) (.slice a2 Q.length c2) (.slice (some ⟨gC, 0, none⟩) M.length M.length) (.slice (some ⟨gD, 0, none⟩) Q.length Q.length) :=
    ⟨(hw15.cell (p := ⟨w.heap.size, 0, none⟩) hz0_hb1).trans p10, (hw15.cell (p := ⟨w.heap.size, 1, none⟩) hz0_hb1).trans p11, x50, x51, by omega, hz45⟩
  have hX5 := HR4.out.below hw45 (Nat.le_refl _)
  obtain ⟨P, hP⟩ : ∃ P, P = w.heap.size := ⟨_, rfl⟩
  obtain ⟨A1, hA1⟩ : ∃ A1, A1 = w3.heap.size := ⟨_, rfl⟩
  obtain ⟨V, hV⟩ : ∃ V, V = w4.heap.size := ⟨_, rfl⟩
  rw [← hP] at hvq
  rw [← hA1] at hX5
  rw [← hV] at hX5 hvq hz45
  rw [← hP, ← hV]
  clear hP hA1 hV hw13 hw15 hw35 hw45 p10 p11 x50 x51 HR4 hw1 hw2 hw3 hw4 HS
  clear hc_hb1 hf_hb1 hcA_hb1 hfA_hb1 hz_hb1 hz0_hb1 hb1 hc_hb2 hf_hb2 hcA_hb2 hfA_hb2 hz_hb2 hz0_hb2 hb2 hc_hb3 hf_hb3 hcA_hb3 hfA_hb3 hz_hb3 hz0_hb3 hb3 hc_hb4 hf_hb4 hcA_hb4 hfA_hb4 hz_hb4 hz0_hb4 hb4 hc_hb5 hf_hb5 hcA_hb5 hfA_hb5 hz_hb5 hz0_hb5 hb5
  have RX := Lib.hid (hX5.reads I1.out I2.out)
  obtain ⟨k1, k2, k3, k4, l1, l2⟩ := hvq
  have r1 : ∀ w', Below w5.heap.size w5 w' → w'.cell? ⟨P, 0, none⟩ = some (.slice a1 M.length c1) := fun w' h => (h.cell (p := ⟨P, 0, none⟩) (by show P < _; omega)).trans k1
  have r2 : ∀ w', Below w5.heap.size w5 w' → w'.cell? ⟨P, 1, none⟩ = some (.slice a2 Q.length c2) := fun w' h => (h.cell (p := ⟨P, 1, none⟩) (by show P < _; omega)).trans k2
  have r3 : ∀ w', Below w5.heap.size w5 w' → w'.cell? ⟨V, 0, none⟩ = some (.slice (some ⟨gC, 0, none⟩) M.length M.length) := fun w' h => (h.cell (p := ⟨V, 0, none⟩) (by show V < _; omega)).trans k3
  have r4 : ∀ w', Below w5.heap.size w5 w' → w'.cell? ⟨V, 1, none⟩ = some (.slice (some ⟨gD, 0, none⟩) Q.length Q.length) := fun w' h => (h.cell (p := ⟨V, 1, none⟩) (by show V < _; omega)).trans k4
  clear hX5 k1 k2 k3 k4 hz45
  go_wp2_with fail
  go_region_held3 (fun w' => Below w5.heap.size w5 w') ((repeat' (first | (with_reducible exact Below.refl _ _) | (with_reducible assumption) | (with_reducible refine Below.alloc ?_ ?_ _) | (with_reducible refine Below.drew ?_) | (with_reducible refine below_drewN ?_ _) | (with_reducible refine Below.setCell ?_ ?_ _) | (with_reducible refine Below.trans ?_ (Below.mono (by with_reducible assumption) ?_)) | (with_reducible exact Below.size (by with_reducible assumption)) | go_size)))
    (first | (go_at_call 15; refine (toProblem_out _ _ M Q _ (g1 _ (hw5.trans (Below.mono (by assumption) hw5.size))) (g2 _ (hw5.trans (Below.mono (by assumption) hw5.size))) HN1.out HN2.out).mono ?_; rintro e w8 ⟨gE, gF, us8, rfl, hr8, hb8⟩; have hS8 : Below w5.heap.size w5 w8 := (by (repeat' (first | (with_reducible exact Below.refl _ _) | (with_reducible assumption) | (with_reducible refine Below.alloc ?_ ?_ _) | (with_reducible refine Below.drew ?_) | (with_reducible refine below_drewN ?_ _) | (with_reducible refine Below.setCell ?_ ?_ _) | (with_reducible refine Below.trans ?_ (Below.mono (by with_reducible assumption) ?_)) | (with_reducible exact Below.size (by with_reducible assumption)) | go_size))); have R8 := Lib.hid (hr8.reads I1.out I2.out); clear hr8) | (go_at_call 17; refine (eqProblem_same _ _ _ _ M Q _ (RX.out.1.below hS8) (RX.out.2.below hS8) R8.out.1 R8.out.2).mono ?_; rintro e w9 ⟨rfl, hb9⟩; have hS9 : Below w5.heap.size w5 w9 := (by (repeat' (first | (with_reducible exact Below.refl _ _) | (with_reducible assumption) | (with_reducible refine Below.alloc ?_ ?_ _) | (with_reducible refine Below.drew ?_) | (with_reducible refine below_drewN ?_ _) | (with_reducible refine Below.setCell ?_ ?_ _) | (with_reducible refine Below.trans ?_ (Below.mono (by with_reducible assumption) ?_)) | (with_reducible exact Below.size (by with_reducible assumption)) | go_size)))))
  have hw9 : Below w.heap.size w w9 := hw5.trans (hS9.mono hw5.size)
  go_wp2_with fail
  go_ret
  exact ⟨rfl, hw9⟩
end Go.Proofs.YtopokicejgjcoaaDoor.PW
