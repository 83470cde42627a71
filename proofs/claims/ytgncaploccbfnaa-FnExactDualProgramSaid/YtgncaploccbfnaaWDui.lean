/-
  DualProgram: the program's side, and the exact law.
-/
import Derived.Test.YtgncaploccbfnaaWDus
namespace Go.Proofs.Ytgncaploccbfnaa.PW
open Go.RowKit Go.Proofs.Ytgncaploccbfnaa
open Go.Proofs.Ytgncaploccbfnaa.PM Go.Proofs.Ytgncaploccbfnaa.PX
attribute [local go_sem] Oper.semAt_some

theorem negL_col (A : List (List Int)) (m k : Nat) : ((List.range m).map fun i => (-1 : Int) * (colW A m k).getD i 0) = duRow A m k := by
  unfold duRow
  apply List.map_congr_left
  intro i hi
  have hi : i < m := by simpa using hi
  simp [colW, hi]
theorem colW_length (A : List (List Int)) (m k : Nat) : (colW A m k).length = m := by simp [colW]
/-- While a column is told, its signs turned, and the row appended to A of a program behind a variable. -/
structure DnR (wB W w' : World) (X N m k : Nat) (d c a b : Value) (D : List (List Int)) (C : List Int) (A : List (List Int)) (B col row : List Int) (us vs : List Value) (v' : Value) (gx gr h : Nat) (b5 b6 b7 b8 b10 : Bool) : Prop where
  low : b8 = false → Below W.heap.size W w'
  pcol : b5 = true → b6 = false → FreshI W.heap.size w' (.slice (some ⟨gx, 0, none⟩) m m) col
  prow : b6 = true → b8 = false → FreshI W.heap.size w' (.slice (some ⟨gr, 0, none⟩) m m) row
  box : b7 = true → b8 = false → w'.cell? ⟨h, 0, none⟩ = some (.slice (some ⟨gr, 0, none⟩) m m)
  app : b8 = true → b10 = false → ∃ w3 g2 cap, v' = .slice (some ⟨g2, 0, none⟩) (k + 1) cap ∧ Below W.heap.size W w3 ∧ FreshI W.heap.size w3 (.slice (some ⟨gr, 0, none⟩) m m) row ∧
    w'.ownsRow 0 23 1 (.slice (some ⟨g2, 0, none⟩) (k + 1) cap) (k + 1) (vs ++ [.slice (some ⟨gr, 0, none⟩) m m]) ∧ w3.grownBy w' a.ownBlock ∧ (a.ownBlock = some g2 ∨ g2 = w3.heap.size) ∧ g2 < w'.heap.size
  fin : b10 = true → PrV X w' N d c v' b D C (A ++ [row]) B us (vs ++ [.slice (some ⟨gr, 0, none⟩) m m]) ∧ Below X wB w'
section
variable {wB W w' w'' : World} {X N m k : Nat} {d c a b v' : Value} {D : List (List Int)} {C : List Int} {A : List (List Int)} {B col row : List Int} {us vs : List Value} {gx gr h : Nat}
theorem DnR.call5 (hR : DnR wB W w' X N m k d c a b D C A B col row us vs v' gx gr h false false false false false) {g : Nat} (hf : FreshI w'.heap.size w'' (.slice (some ⟨g, 0, none⟩) m m) col) (hb : Below w'.heap.size w' w'') :
    DnR wB W w'' X N m k d c a b D C A B col row us vs v' g gr h true false false false false :=
  have hl := hR.low rfl
  ⟨fun _ => hl.trans (hb.mono hl.size), fun _ _ => hf.mono hl.size, fun e => Bool.noConfusion e, fun e => Bool.noConfusion e, fun e => Bool.noConfusion e, fun e => Bool.noConfusion e⟩
theorem DnR.call6 (hR : DnR wB W w' X N m k d c a b D C A B col row us vs v' gx gr h true false false false false) {g : Nat} (hf : FreshI w'.heap.size w'' (.slice (some ⟨g, 0, none⟩) m m) row) (hb : Below w'.heap.size w' w'') :
    DnR wB W w'' X N m k d c a b D C A B col row us vs v' gx g h true true false false false :=
  have hl := hR.low rfl
  ⟨fun _ => hl.trans (hb.mono hl.size), fun _ e => Bool.noConfusion e, fun _ _ => hf.mono hl.size, fun e => Bool.noConfusion e, fun e => Bool.noConfusion e, fun e => Bool.noConfusion e⟩
theorem DnR.box_ (hR : DnR wB W w' X N m k d c a b D C A B col row us vs v' gx gr h true true false false false) :
    DnR wB W (w'.alloc (.cells #[.slice (some ⟨gr, 0, none⟩) m m] 23)) X N m k d c a b D C A B col row us vs v' gx gr w'.heap.size true true true false false :=
  have hl := hR.low rfl
  have ha : Below w'.heap.size w' (w'.alloc (.cells #[.slice (some ⟨gr, 0, none⟩) m m] 23)) := (Below.refl _ _).alloc (Nat.le_refl _) _
  ⟨fun _ => hl.trans (ha.mono hl.size), fun _ e => Bool.noConfusion e, fun _ _ => (hR.prow rfl rfl).below ha, fun _ _ => by simp, fun e => Bool.noConfusion e, fun e => Bool.noConfusion e⟩
theorem DnR.app_ (hR : DnR wB W w' X N m k d c a b D C A B col row us vs v' gx gr h true true true false false) {g2 cap : Nat} (hown : w''.ownsRow 0 23 1 (.slice (some ⟨g2, 0, none⟩) (k + 1) cap) (k + 1) (vs ++ [.slice (some ⟨gr, 0, none⟩) m m]))
    (hgrow : w'.grownBy w'' a.ownBlock) (hat : a.ownBlock = some g2 ∨ g2 = w'.heap.size) (hgl : g2 < w''.heap.size) :
    DnR wB W w'' X N m k d c a b D C A B col row us vs (.slice (some ⟨g2, 0, none⟩) (k + 1) cap) gx gr h true true true true false :=
  ⟨fun e => Bool.noConfusion e, fun _ e => Bool.noConfusion e, fun _ e => Bool.noConfusion e, fun _ e => Bool.noConfusion e, fun _ _ => ⟨w', g2, cap, rfl, hR.low rfl, hR.prow rfl rfl, hown, hgrow, hat, hgl⟩, fun e => Bool.noConfusion e⟩
theorem DnR.store_ {g2 cap : Nat} (hR : DnR wB W w' X N m k d c a b D C A B col row us vs (.slice (some ⟨g2, 0, none⟩) (k + 1) cap) gx gr h true true true true false) (hP : PrV X W N d c a b D C A B us vs) (hk : A.length = k) (hwB : Below X wB W) :
    DnR wB W (w'.setCell ⟨N, 2, none⟩ (.slice (some ⟨g2, 0, none⟩) (k + 1) cap)) X N m k d c a b D C A B col row us vs (.slice (some ⟨g2, 0, none⟩) (k + 1) cap) gx gr h true true true true true := by
  obtain ⟨w3, g3, cap3, hv, hlow, hf, hown, hgrow, hat, hgl⟩ := hR.app rfl rfl
  simp only [Value.slice.injEq, Option.some.injEq, Addr.mk.injEq, and_true, true_and] at hv
  obtain ⟨rfl, rfl⟩ := hv
  exact ⟨fun e => Bool.noConfusion e, fun _ e => Bool.noConfusion e, fun _ e => Bool.noConfusion e, fun _ e => Bool.noConfusion e, fun _ e => Bool.noConfusion e,
    fun _ => ⟨hP.rowA hlow hf (Nat.le_refl _) hk hown hgrow hat hgl, pgG_low hwB hP.BN hP.lt hlow hgrow (fun b hb => (hP.rng.ba b (List.mem_append.2 (.inl (mem_blks'.2 hb)))).1)⟩⟩
end

set_option maxRecDepth 100000 in
set_option maxHeartbeats 8000000 in
theorem implDualProgram_any (d c a b : Value) (D : List (List Int)) (C : List Int) (A : List (List Int)) (B : List Int) (w : World) (h1 : PM.Rows w d D) (h2 : Ints w c C) (h3 : PM.Rows w a A) (h4 : Ints w b B) (hs : szWn D C A B ≤ 1048576) :
    Calls Try.prog 50 #[.agg #[d, c, a, b]] w (OutWx w (duOut D C A B)) := by
  have hmx : Try.prog.follows .mixedOrders = true := by kernel_rfl
  have HIS := Lib.hid (fun (w' : World) (h : Below w.heap.size w w') => implIsProgram_any d c a b D C A B w' (h1.below h) (h2.below h) (h3.below h) (h4.below h) hs)
  have HLI := Lib.hid (fun (hc : isWB D C A B = true) (w' : World) (h : Below w.heap.size w w') => isLinear_any d c a b D C A B w' (h1.below h) (h2.below h) (h3.below h) (h4.below h) hc)
  have H2 := Lib.hid h2
  have H3 := Lib.hid h3
  have H4 := Lib.hid h4
  obtain ⟨x1, y1, rfl, _⟩ := h1
  obtain ⟨x2, y2, rfl, _⟩ := h2
  obtain ⟨x3, y3, rfl, _⟩ := h3
  obtain ⟨x4, y4, rfl, _⟩ := h4
  have HBL := Lib.hid (wints_len H4.out)
  clear hs
  obtain ⟨W0, hW0⟩ : ∃ W0, W0 = (w.alloc (.cells #[.slice x1 D.length y1, .slice x2 C.length y2, .slice x3 A.length y3, .slice x4 B.length y4] 54)).alloc (.cells #[.slice none 0 0, .slice none 0 0, .slice none 0 0, .slice none 0 0] 54) := ⟨_, rfl⟩
  have hg0 : Wd w W0 (.slice x1 D.length y1) (.slice x2 C.length y2) (.slice x3 A.length y3) (.slice x4 B.length y4) := by rw [hW0]; exact wd_new _ _ _ _ _ _ _
  have HG0 := Lib.hid hg0
  have HW0 := Lib.hid hW0
  clear hg0 hW0
  cases hc : isWB D C A B
  · rw [du_no hc]
    rw [hc] at HIS
    clear hc HLI
    have k0 := HG0.out.k0
    have k1 := HG0.out.k1
    have k2 := HG0.out.k2
    have k3 := HG0.out.k3
    go_enter Try.func50, Try.ntmps50
    go_wp2_with fail
    rw [← HW0.out]
    refine (HIS.out _ HG0.out.b).mono ?_; rintro e w1 ⟨rfl, hb1⟩
    obtain ⟨hw1, k0, k1, k2, k3, r0, r1, r2, r3, f, hz1⟩ := HG0.out.next hb1
    have f0 := f 0
    have f1 := f 1
    have f2 := f 2
    have f3 := f 3
    clear hb1
    go_wp2_with fail
    refine bodyPost_ret (v := .tuple #[.agg #[.slice none 0 0, .slice none 0 0, .slice none 0 0, .slice none 0 0], .int .i64 1]) (by simp [*, results, Try.results50, go_sem]) rfl ?_
    exact outW_err (by (repeat' (first | (with_reducible exact Below.refl _ _) | (with_reducible assumption) | (with_reducible refine Below.alloc ?_ ?_ _) | (with_reducible refine Below.drew ?_) | (with_reducible refine below_drewN ?_ _) | (with_reducible refine Below.setCell ?_ ?_ _) | (with_reducible refine Below.trans ?_ (Below.mono (by with_reducible assumption) ?_)) | (with_reducible exact Below.size (by with_reducible assumption)) | go_size)))
  rw [hc] at HIS
  have HLI := Lib.hid (HLI.out hc)
  cases hl : linB D
  · rw [du_five hc (by rw [hl]; exact fun h => Bool.noConfusion h.1)]
    rw [hl] at HLI
    clear hc hl
    go_enter Try.func50, Try.ntmps50
    go_wp2_with fail
    rw [← HW0.out]
    refine (HIS.out _ HG0.out.b).mono ?_; rintro e w1 ⟨rfl, hb1⟩
    have hg1 := HG0.out.next hb1
    have HG1 := Lib.hid hg1
    obtain ⟨hw1, k0, k1, k2, k3, _, _, _, _, _, _⟩ := hg1
    clear hb1
    go_wp2_with fail
    refine (HLI.out _ HG1.out.b).mono ?_; rintro e w2 ⟨rfl, hb2⟩
    obtain ⟨hw2, k0, k1, k2, k3, r0, r1, r2, r3, f, hz2⟩ := HG1.out.next hb2
    have f0 := f 0
    have f1 := f 1
    have f2 := f 2
    have f3 := f 3
    clear hb2 hw1
    go_wp2_with fail
    refine bodyPost_ret (v := .tuple #[.agg #[.slice none 0 0, .slice none 0 0, .slice none 0 0, .slice none 0 0], .int .i64 5]) (by simp [*, results, Try.results50, go_sem]) rfl ?_
    exact outW_err (by (repeat' (first | (with_reducible exact Below.refl _ _) | (with_reducible assumption) | (with_reducible refine Below.alloc ?_ ?_ _) | (with_reducible refine Below.drew ?_) | (with_reducible refine below_drewN ?_ _) | (with_reducible refine Below.setCell ?_ ?_ _) | (with_reducible refine Below.trans ?_ (Below.mono (by with_reducible assumption) ?_)) | (with_reducible exact Below.size (by with_reducible assumption)) | go_size)))
  rw [hl] at HLI
  by_cases hm : 1 ≤ B.length
  case neg =>
    rw [du_five hc (fun h => hm h.2)]
    have hal := ((isWB_is D C A B).1 hc).a
    have hb0 : ((A.length : Int) == 0) = true := by simp; exact List.eq_nil_of_length_eq_zero (by omega)
    have hbl := HBL.out
    have hal2 : A.length ≤ 9223372036854775807 := by omega
    clear hc hl hm hal
    generalize A.length = m at *
    go_enter Try.func50, Try.ntmps50
    go_wp2_with fail
    rw [← HW0.out]
    refine (HIS.out _ HG0.out.b).mono ?_; rintro e w1 ⟨rfl, hb1⟩
    have hg1 := HG0.out.next hb1
    have HG1 := Lib.hid hg1
    obtain ⟨hw1, k0, k1, k2, k3, _, _, _, _, _, _⟩ := hg1
    clear hb1
    go_wp2_with fail
    refine (HLI.out _ HG1.out.b).mono ?_; rintro e w2 ⟨rfl, hb2⟩
    obtain ⟨hw2, k0, k1, k2, k3, r0, r1, r2, r3, f, hz2⟩ := HG1.out.next hb2
    have f0 := f 0
    have f1 := f 1
    have f2 := f 2
    have f3 := f 3
    clear hb2 hw1
    go_wp2_with fail
    refine bodyPost_ret (v := .tuple #[.agg #[.slice none 0 0, .slice none 0 0, .slice none 0 0, .slice none 0 0], .int .i64 5]) (by simp [*, results, Try.results50, go_sem]) rfl ?_
    exact outW_err (by (repeat' (first | (with_reducible exact Below.refl _ _) | (with_reducible assumption) | (with_reducible refine Below.alloc ?_ ?_ _) | (with_reducible refine Below.drew ?_) | (with_reducible refine below_drewN ?_ _) | (with_reducible refine Below.setCell ?_ ?_ _) | (with_reducible refine Below.trans ?_ (Below.mono (by with_reducible assumption) ?_)) | (with_reducible exact Below.size (by with_reducible assumption)) | go_size)))
  rw [du_ok hc ⟨hl, hm⟩]
  have hW := (isWB_is D C A B).1 hc
  have hBL := hW.a
  have HCO := Lib.hid (fun (k : Nat) (hk : k < C.length) (w' : World) (h : Below w.heap.size w w') => columnW_any _ A B.length C.length k w' (H3.out.below h) hW.a hm (by have := hW.n5; omega) hW.n1 (by have := hW.n5; omega) hW.ar hk)
  have HMB := Lib.hid (fun (w' : World) (h : Below w.heap.size w w') => multiplesOf_any _ B (-1) w' (H4.out.below h) hm (by have := hW.n5; omega) (fun i hi => by have := hW.b i hi; omega))
  have HMC := Lib.hid (fun (w' : World) (h : Below w.heap.size w w') => multiplesOf_any _ C (-1) w' (H2.out.below h) hW.n1 (by have := hW.n5; omega) (fun i hi => by have := hW.c i hi; omega))
  have HSQ := Lib.hid (fun (w' : World) => squareRows_du B.length (fun _ _ => 0) w' hm (by have := hW.n5; omega) (du_tells _ _))
  have HMR := Lib.hid (fun (k : Nat) (hk : k < C.length) (v : Value) (w' : World) (h : Ints w' v (colW A B.length k)) => multiplesOf_any v (colW A B.length k) (-1) w' h (by rw [colW_length]; exact hm) (by rw [colW_length]; have := hW.n5; omega) (fun i hi => by
    rw [colW_length] at hi
    have := hW.ak i hi k hk
    have e : (colW A B.length k).getD i 0 = wE A i k := by simp [colW, hi]
    rw [e]; omega))
  have HCI := Lib.hid (fun (k : Nat) (hk : k < C.length) => show ∀ x ∈ colW A B.length k, I64 x from fun x hx => by
    unfold colW at hx
    obtain ⟨i, hi, rfl⟩ := List.mem_map.1 hx
    have := hW.ak i (by simpa using hi) k hk
    unfold I64; omega)
  have hn1 := hW.n1
  have hn5 := hW.n5
  rw [negL_mul] at HMB HMC
  clear H2 H3 H4 HBL hc hl hW
  obtain ⟨n, hn⟩ : ∃ n, n = C.length := ⟨_, rfl⟩
  obtain ⟨m, hmm⟩ : ∃ m, m = B.length := ⟨_, rfl⟩
  have HNB : Hid ((negL B).length = m) := by show _ = _; rw [hmm]; exact negL_length B
  have HNC : Hid ((negL C).length = n) := by show _ = _; rw [hn]; exact negL_length C
  rw [hBL] at HIS HLI HG0 HW0 HCO ⊢
  rw [← hn, ← hmm] at hn5 HIS HLI HG0 HW0 HCO HMR HCI ⊢
  rw [← hn] at HMC hn1
  rw [← hmm] at HMB HSQ hm
  generalize negL B = NB at *
  generalize negL C = NC at *
  clear hn hmm hBL
  have HTL : Hid ((tab m (fun _ _ => (0 : Int))).length = m) := tab_length _ _
  generalize tab m (fun _ _ => (0 : Int)) = T at *
  have HML := Lib.hid (fun k => colW_length A m k)
  have HNM := Lib.hid (fun k => negL_col A m k)
  have hmb : ((m : Int) == 0) = false := by simp; omega
  obtain ⟨i0, hi', hzz0, hzz1, hzz2⟩ := info_parts info_ints
  obtain ⟨j0, hj', hyy0, hyy1, hyy2⟩ := info_parts info_int
  go_enter Try.func50, Try.ntmps50
  go_wp2_with fail
  rw [← HW0.out]
  refine (HIS.out _ HG0.out.b).mono ?_; rintro e w1 ⟨rfl, hb1⟩
  have hg1 := HG0.out.next hb1
  have HG1 := Lib.hid hg1
  have k0 := hg1.k0
  have k1 := hg1.k1
  have k2 := hg1.k2
  have k3 := hg1.k3
  clear hb1 hg1
  go_wp2_with fail
  refine (HLI.out _ HG1.out.b).mono ?_; rintro e w2 ⟨rfl, hb2⟩
  have hg2 := HG1.out.next hb2
  have HG2 := Lib.hid hg2
  clear k0 k1 k2 k3
  have k0 := hg2.k0
  have k1 := hg2.k1
  have k2 := hg2.k2
  have k3 := hg2.k3
  have hz2 := hg2.z
  clear hb2 hg2 HG0 HG1 HIS HLI
  go_wp2_with fail
  obtain ⟨W, rfl⟩ : ∃ W, W = w2 := ⟨_, rfl⟩
  rename_i K0 hK0
  refine (wpIn_wide (n := 8)).1 ?_
  have hzW : w.heap.size < W.heap.size := by omega
  refine PR.wpIn_region_inv hmx (by kernel_rfl) (fun listed ac w' =>
      ∃ (b0 b1 b2 b3 b4 b5 b6 b7 b8 b9 b10 b11 b12 : Bool) (gd : Nat) (gc : Nat) (gb : Nat) (g : Nat) (us : List Value), ((b1 = true → b0 = true) ∧ (b2 = true → b1 = true) ∧ (b3 = true → b2 = true) ∧ (b5 = true → b4 = true) ∧ (b6 = true → b5 = true ∧ b3 = true) ∧ (b8 = true → b7 = true) ∧ (b9 = true → b8 = true ∧ b6 = true) ∧ (b10 = true → b3 = true ∧ b6 = true ∧ b9 = true) ∧ (b12 = true → b11 = true ∧ b10 = true)) ∧ listed = #[b0, b1, b2, b3, b4, b5, b6, b7, b8, b9, b10, b11, b12] ∧
        ac = { tmps := #[.agg #[.slice x1 D.length y1, .slice x2 n y2, .slice x3 m y3, .slice x4 m y4], .pointer (some ⟨w.heap.size, 0, none⟩), .pointer (some ⟨w.heap.size + 1, 0, none⟩), .int .i64 0, cond b11 (.pointer (some ⟨g, 0, none⟩)) undef, undef, .agg #[.slice x1 D.length y1, .slice x2 n y2, .slice x3 m y3, .slice x4 m y4], .bool true, .bool false, undef, .agg #[.slice x1 D.length y1, .slice x2 n y2, .slice x3 m y3, .slice x4 m y4], .bool true, .bool false, .bool false, .pointer (some ⟨w.heap.size, 2, none⟩), .slice x3 m y3, .int .i64 m, .bool false, .bool false, undef, cond b0 (.pointer (some ⟨w.heap.size, 2, none⟩)) undef, cond b1 (.slice x3 m y3) undef, cond b2 (.int .i64 m) undef, cond b3 (.slice (some ⟨gd, 0, none⟩) m m) undef, cond b4 (.pointer (some ⟨w.heap.size, 3, none⟩)) undef, cond b5 (.slice x4 m y4) undef, cond b6 (.slice (some ⟨gc, 0, none⟩) m m) undef, cond b7 (.pointer (some ⟨w.heap.size, 1, none⟩)) undef, cond b8 (.slice x2 n y2) undef, cond b9 (.slice (some ⟨gb, 0, none⟩) n n) undef, cond b10 (.agg #[.slice (some ⟨gd, 0, none⟩) m m, .slice (some ⟨gc, 0, none⟩) m m, .slice none 0 0, .slice (some ⟨gb, 0, none⟩) n n]) undef, undef, undef, undef, undef, undef, undef, undef, undef, undef, undef, undef, undef, undef, undef, undef, undef, undef, undef], defers := [] } ∧ DuR W w' (.slice (some ⟨gd, 0, none⟩) m m) (.slice (some ⟨gc, 0, none⟩) m m) (.slice none 0 0) (.slice (some ⟨gb, 0, none⟩) n n) T NB NC us g b3 b6 true b9 b11 b12) ?_ ?_ ?_ ?_
  · rintro listed ac w' ⟨b0, b1, b2, b3, b4, b5, b6, b7, b8, b9, b10, b11, b12, gd, gc, gb, g, us, _, rfl, _⟩
    rfl
  · rintro listed ac w' ⟨b0, b1, b2, b3, b4, b5, b6, b7, b8, b9, b10, b11, b12, gd, gc, gb, g, us, _, rfl, rfl, hR⟩ hall
    have h0 := hall 0 (by simp)
    have h1 := hall 1 (by simp)
    have h2 := hall 2 (by simp)
    have h3 := hall 3 (by simp)
    have h4 := hall 4 (by simp)
    have h5 := hall 5 (by simp)
    have h6 := hall 6 (by simp)
    have h7 := hall 7 (by simp)
    have h8 := hall 8 (by simp)
    have h9 := hall 9 (by simp)
    have h10 := hall 10 (by simp)
    have h11 := hall 11 (by simp)
    have h12 := hall 12 (by simp)
    simp at h0 h1 h2 h3 h4 h5 h6 h7 h8 h9 h10 h11 h12
    subst h0 h1 h2 h3 h4 h5 h6 h7 h8 h9 h10 h11 h12
    clear hall
    refine hK0 _ _ ?_
    simp only [cond_true]
    have HP := Lib.hid hR.prV
    have HLOW := Lib.hid hR.low
    clear hR
    obtain ⟨W5, rfl⟩ : ∃ x, x = w' := ⟨_, rfl⟩
    obtain ⟨X, hX⟩ : ∃ X, X = W.heap.size := ⟨_, rfl⟩
    rw [← hX] at HP HLOW
    have HX := Lib.hid hX
    have hXw : w.heap.size + 1 < X := by omega
    have hk1' : W5.cell? ⟨w.heap.size, 1, none⟩ = some (.slice x2 n y2) := (HLOW.out.cell (p := ⟨w.heap.size, 1, none⟩) (by show w.heap.size < _; omega)).trans k1
    clear k0 k1 k2 k3 hX hz2 hzW
    go_wp2_with fail
    go_loopw [5, 34] (fun _ i wr => ∃ (k : Nat) (a : Value) (vs : List Value), k ≤ n ∧ i = .int .i64 k ∧ PrV X wr g (.slice (some ⟨gd, 0, none⟩) m m) (.slice (some ⟨gc, 0, none⟩) m m) a (.slice (some ⟨gb, 0, none⟩) n n) T NB (duRows A m k) NC us vs ∧ Below X W wr) (fun _ i _ => n - (intOf i).toNat)
    case atStart => exact ⟨0, _, [], Nat.zero_le _, rfl, HP.out, HLOW.out⟩
    case round =>
      obtain ⟨k, a, vs, hk, rfl, hP, hB⟩ := hrel
      have hB' := hB
      rw [HX.out] at hB'
      have hg6 := HG2.out.next hB'
      clear hk1' hB'
      by_cases hlt : k < n
      · have HPV := Lib.hid hP
        have HB := Lib.hid hB
        have HG6 := Lib.hid hg6
        have kA := hg6.k2
        have hzW6 : w.heap.size < wr.heap.size := by have := hg6.z; omega
        have HGS := Lib.hid (duRows_snoc A m k)
        have HGL := Lib.hid (duRows_length A m k)
        have hown0 : ∀ w', Below wr.heap.size wr w' → w'.ownsRow 0 23 1 a k vs := fun w' h => by
          have := (HPV.out.below h).rng.oa.top
          rwa [HGL.out] at this
        have HOW := Lib.hid hown0
        have HCK := Lib.hid (fun w' h => HCO.out k hlt w' h)
        have HMK := Lib.hid (fun v w' h => HMR.out k hlt v w' h)
        have HCIK := Lib.hid (HCI.out k hlt)
        rw [HML.out k, HNM.out k] at HMK
        have hkn : (k : Int) < n := by omega
        clear hP hB hg6 hown0
        go_wp2_with fail
        obtain ⟨W6, rfl⟩ : ∃ x, x = wr := ⟨_, rfl⟩
        rename_i K1 hK1
        refine (wpIn_wide (n := 8)).1 ?_
        refine PR.wpIn_region_inv hmx (by kernel_rfl) (fun listed ac w' =>
            ∃ (b0 b1 b2 b3 b4 b5 b6 b7 b8 b9 b10 : Bool) (v' : Value) (gx : Nat) (gr : Nat) (hq : Nat), ((b1 = true → b0 = true) ∧ (b3 = true → b2 = true) ∧ (b5 = true → b3 = true ∧ b4 = true) ∧ (b6 = true → b5 = true) ∧ (b7 = true → b6 = true) ∧ (b8 = true → b1 = true ∧ b7 = true) ∧ (b10 = true → b9 = true ∧ b8 = true)) ∧ listed = #[b0, b1, b2, b3, b4, b5, b6, b7, b8, b9, b10] ∧
              ac = { tmps := #[.agg #[.slice x1 D.length y1, .slice x2 n y2, .slice x3 m y3, .slice x4 m y4], .pointer (some ⟨w.heap.size, 0, none⟩), .pointer (some ⟨w.heap.size + 1, 0, none⟩), .int .i64 0, .pointer (some ⟨g, 0, none⟩), .int .i64 k, .agg #[.slice x1 D.length y1, .slice x2 n y2, .slice x3 m y3, .slice x4 m y4], .bool true, .bool false, undef, .agg #[.slice x1 D.length y1, .slice x2 n y2, .slice x3 m y3, .slice x4 m y4], .bool true, .bool false, .bool false, .pointer (some ⟨w.heap.size, 2, none⟩), .slice x3 m y3, .int .i64 m, .bool false, .bool false, undef, .pointer (some ⟨w.heap.size, 2, none⟩), .slice x3 m y3, .int .i64 m, .slice (some ⟨gd, 0, none⟩) m m, .pointer (some ⟨w.heap.size, 3, none⟩), .slice x4 m y4, .slice (some ⟨gc, 0, none⟩) m m, .pointer (some ⟨w.heap.size, 1, none⟩), .slice x2 n y2, .slice (some ⟨gb, 0, none⟩) n n, .agg #[.slice (some ⟨gd, 0, none⟩) m m, .slice (some ⟨gc, 0, none⟩) m m, .slice none 0 0, .slice (some ⟨gb, 0, none⟩) n n], .pointer (some ⟨w.heap.size, 1, none⟩), .slice x2 n y2, .int .i64 n, .int .i64 k, .bool true, .int .i64 k, cond b0 (.pointer (some ⟨g, 2, none⟩)) (u37), cond b1 (a) (u38), cond b2 (.pointer (some ⟨w.heap.size, 2, none⟩)) (u39), cond b3 (.slice x3 m y3) (u40), cond b4 (.int .i64 k) (u41), cond b5 (.slice (some ⟨gx, 0, none⟩) m m) (u42), cond b6 (.slice (some ⟨gr, 0, none⟩) m m) (u43), cond b7 (.slice (some ⟨hq, 0, none⟩) 1 1) (u44), cond b8 (v') (u45), cond b9 (.pointer (some ⟨g, 2, none⟩)) (u46), u47, undef], defers := [] } ∧ DnR W W6 w' X g m k (.slice (some ⟨gd, 0, none⟩) m m) (.slice (some ⟨gc, 0, none⟩) m m) a (.slice (some ⟨gb, 0, none⟩) n n) T NB (duRows A m k) NC (colW A m k) (duRow A m k) us vs v' gx gr hq b5 b6 b7 b8 b10) ?_ ?_ ?_ ?_
        · rintro listed ac w' ⟨b0, b1, b2, b3, b4, b5, b6, b7, b8, b9, b10, v', gx, gr, hq, _, rfl, _⟩
          rfl
        · rintro listed ac w' ⟨b0, b1, b2, b3, b4, b5, b6, b7, b8, b9, b10, v', gx, gr, hq, _, rfl, rfl, hR⟩ hall
          have h0 := hall 0 (by simp)
          have h1 := hall 1 (by simp)
          have h2 := hall 2 (by simp)
          have h3 := hall 3 (by simp)
          have h4 := hall 4 (by simp)
          have h5 := hall 5 (by simp)
          have h6 := hall 6 (by simp)
          have h7 := hall 7 (by simp)
          have h8 := hall 8 (by simp)
          have h9 := hall 9 (by simp)
          have h10 := hall 10 (by simp)
          simp at h0 h1 h2 h3 h4 h5 h6 h7 h8 h9 h10
          subst h0 h1 h2 h3 h4 h5 h6 h7 h8 h9 h10
          clear hall
          refine hK1 _ _ ?_
          simp only [cond_true]
          obtain ⟨hfin, hlow⟩ := hR.fin rfl
          rw [← HGS.out] at hfin
          have HF9 := Lib.hid hfin
          have HL9 := Lib.hid hlow
          clear hR hfin hlow
          go_wp2_with fail
          go_roundw
          case rel => exact ⟨k + 1, _, _, by omega, by go_num, HF9.out, HL9.out⟩
          case measure => simp [intOf]; omega
        · exact ⟨false, false, false, false, false, false, false, false, false, false, false, undef, 0, 0, 0, by simp, rfl, rfl, ⟨fun _ => (Below.refl _ _).drew, fun e => (by cases e), fun e => (by cases e), fun e => (by cases e), fun e => (by cases e), fun e => (by cases e)⟩⟩
        · rintro listed ac w' i oi ⟨b0, b1, b2, b3, b4, b5, b6, b7, b8, b9, b10, v', gx, gr, hq, ⟨e1, e3, e5, e6, e7, e8, e10⟩, rfl, rfl, hR⟩ ho hun hdep
          have hi : i < 11 := by simpa using (Array.getElem?_eq_some_iff.1 ho).1
          obtain rfl | rfl | rfl | rfl | rfl | rfl | rfl | rfl | rfl | rfl | rfl : i = 0 ∨ i = 1 ∨ i = 2 ∨ i = 3 ∨ i = 4 ∨ i = 5 ∨ i = 6 ∨ i = 7 ∨ i = 8 ∨ i = 9 ∨ i = 10 := by omega
          · -- 0
            simp only [List.getElem?_toArray, List.getElem?_cons_zero, Option.some.injEq] at ho
            subst ho
            have hbi : b0 = false := by simpa using hun
            subst hbi
            obtain rfl : b1 = false := Bool.eq_false_iff.2 (fun h => Bool.noConfusion (e1 h))
            obtain rfl : b8 = false := Bool.eq_false_iff.2 (fun h => Bool.noConfusion (e8 h).1)
            obtain rfl : b10 = false := Bool.eq_false_iff.2 (fun h => Bool.noConfusion (e10 h).2)
            refine wpOpIn_step rfl (fun K hK => ?_)
            clear hun hdep hi
            go_simp
            refine hK _ _ ⟨true, false, b2, b3, b4, b5, b6, b7, false, b9, false, v', gx, gr, hq, ⟨fun h => Bool.noConfusion h, e3, e5, e6, e7, fun h => Bool.noConfusion h, fun h => Bool.noConfusion h⟩, rfl, rfl, hR⟩
          · -- 1
            simp only [List.getElem?_toArray, List.getElem?_cons_succ, List.getElem?_cons_zero, Option.some.injEq] at ho
            subst ho
            have hbi : b1 = false := by simpa using hun
            subst hbi
            have hd0 : b0 = true := by have := hdep ⟨0, .data⟩ (by simp) rfl; simpa using this
            subst hd0
            obtain rfl : b8 = false := Bool.eq_false_iff.2 (fun h => Bool.noConfusion (e8 h).1)
            obtain rfl : b10 = false := Bool.eq_false_iff.2 (fun h => Bool.noConfusion (e10 h).2)
            refine wpOpIn_step rfl (fun K hK => ?_)
            clear hun hdep hi
            have t0 := ((hR.low rfl).cell (p := ⟨g, 2, none⟩) HPV.out.lt).trans HPV.out.k2
            go_simp
            refine hK _ _ ⟨true, true, b2, b3, b4, b5, b6, b7, false, b9, false, v', gx, gr, hq, ⟨fun _ => rfl, e3, e5, e6, e7, fun h => Bool.noConfusion h, fun h => Bool.noConfusion h⟩, rfl, rfl, hR⟩
          · -- 2
            simp only [List.getElem?_toArray, List.getElem?_cons_succ, List.getElem?_cons_zero, Option.some.injEq] at ho
            subst ho
            have hbi : b2 = false := by simpa using hun
            subst hbi
            obtain rfl : b3 = false := Bool.eq_false_iff.2 (fun h => Bool.noConfusion (e3 h))
            obtain rfl : b5 = false := Bool.eq_false_iff.2 (fun h => Bool.noConfusion (e5 h).1)
            obtain rfl : b6 = false := Bool.eq_false_iff.2 (fun h => Bool.noConfusion (e6 h))
            obtain rfl : b7 = false := Bool.eq_false_iff.2 (fun h => Bool.noConfusion (e7 h))
            obtain rfl : b8 = false := Bool.eq_false_iff.2 (fun h => Bool.noConfusion (e8 h).2)
            obtain rfl : b10 = false := Bool.eq_false_iff.2 (fun h => Bool.noConfusion (e10 h).2)
            refine wpOpIn_step rfl (fun K hK => ?_)
            clear hun hdep hi
            go_simp
            refine hK _ _ ⟨b0, b1, true, false, b4, false, false, false, false, b9, false, v', gx, gr, hq, ⟨e1, fun h => Bool.noConfusion h, fun h => Bool.noConfusion h, fun h => Bool.noConfusion h, fun h => Bool.noConfusion h, fun h => Bool.noConfusion h, fun h => Bool.noConfusion h⟩, rfl, rfl, hR⟩
          · -- 3
            simp only [List.getElem?_toArray, List.getElem?_cons_succ, List.getElem?_cons_zero, Option.some.injEq] at ho
            subst ho
            have hbi : b3 = false := by simpa using hun
            subst hbi
            have hd2 : b2 = true := by have := hdep ⟨2, .data⟩ (by simp) rfl; simpa using this
            subst hd2
            obtain rfl : b5 = false := Bool.eq_false_iff.2 (fun h => Bool.noConfusion (e5 h).1)
            obtain rfl : b6 = false := Bool.eq_false_iff.2 (fun h => Bool.noConfusion (e6 h))
            obtain rfl : b7 = false := Bool.eq_false_iff.2 (fun h => Bool.noConfusion (e7 h))
            obtain rfl : b8 = false := Bool.eq_false_iff.2 (fun h => Bool.noConfusion (e8 h).2)
            obtain rfl : b10 = false := Bool.eq_false_iff.2 (fun h => Bool.noConfusion (e10 h).2)
            refine wpOpIn_step rfl (fun K hK => ?_)
            clear hun hdep hi
            have t0 := ((hR.low rfl).cell (p := ⟨w.heap.size, 2, none⟩) hzW6).trans kA
            go_simp
            refine hK _ _ ⟨b0, b1, true, true, b4, false, false, false, false, b9, false, v', gx, gr, hq, ⟨e1, fun _ => rfl, fun h => Bool.noConfusion h, fun h => Bool.noConfusion h, fun h => Bool.noConfusion h, fun h => Bool.noConfusion h, fun h => Bool.noConfusion h⟩, rfl, rfl, hR⟩
          · -- 4
            simp only [List.getElem?_toArray, List.getElem?_cons_succ, List.getElem?_cons_zero, Option.some.injEq] at ho
            subst ho
            have hbi : b4 = false := by simpa using hun
            subst hbi
            obtain rfl : b5 = false := Bool.eq_false_iff.2 (fun h => Bool.noConfusion (e5 h).2)
            obtain rfl : b6 = false := Bool.eq_false_iff.2 (fun h => Bool.noConfusion (e6 h))
            obtain rfl : b7 = false := Bool.eq_false_iff.2 (fun h => Bool.noConfusion (e7 h))
            obtain rfl : b8 = false := Bool.eq_false_iff.2 (fun h => Bool.noConfusion (e8 h).2)
            obtain rfl : b10 = false := Bool.eq_false_iff.2 (fun h => Bool.noConfusion (e10 h).2)
            refine wpOpIn_step rfl (fun K hK => ?_)
            clear hun hdep hi
            go_simp
            refine hK _ _ ⟨b0, b1, b2, b3, true, false, false, false, false, b9, false, v', gx, gr, hq, ⟨e1, e3, fun h => Bool.noConfusion h, fun h => Bool.noConfusion h, fun h => Bool.noConfusion h, fun h => Bool.noConfusion h, fun h => Bool.noConfusion h⟩, rfl, rfl, hR⟩
          · -- 5
            simp only [List.getElem?_toArray, List.getElem?_cons_succ, List.getElem?_cons_zero, Option.some.injEq] at ho
            subst ho
            have hbi : b5 = false := by simpa using hun
            subst hbi
            have hd3 : b3 = true := by have := hdep ⟨3, .data⟩ (by simp) rfl; simpa using this
            have hd4 : b4 = true := by have := hdep ⟨4, .data⟩ (by simp) rfl; simpa using this
            have hd2 : b2 = true := (e3 hd3)
            subst hd2 hd3 hd4
            obtain rfl : b6 = false := Bool.eq_false_iff.2 (fun h => Bool.noConfusion (e6 h))
            obtain rfl : b7 = false := Bool.eq_false_iff.2 (fun h => Bool.noConfusion (e7 h))
            obtain rfl : b8 = false := Bool.eq_false_iff.2 (fun h => Bool.noConfusion (e8 h).2)
            obtain rfl : b10 = false := Bool.eq_false_iff.2 (fun h => Bool.noConfusion (e10 h).2)
            refine wpOpIn_step rfl (fun K hK => ?_)
            clear hun hdep hi
            go_simp
            refine ⟨trivial, (callsIn_wide.2 (HCK.out w' (HG6.out.b.trans ((hR.low rfl).mono HG6.out.b.size)))).mono ?_⟩
            rintro e w'' ⟨yg, rfl, hF, hb'⟩
            refine hK _ _ ⟨b0, b1, true, true, true, true, false, false, false, b9, false, v', yg, gr, hq, ⟨e1, fun _ => rfl, fun _ => ⟨rfl, rfl⟩, fun h => Bool.noConfusion h, fun h => Bool.noConfusion h, fun h => Bool.noConfusion h, fun h => Bool.noConfusion h⟩, rfl, rfl, hR.call5 hF hb'⟩
          · -- 6
            simp only [List.getElem?_toArray, List.getElem?_cons_succ, List.getElem?_cons_zero, Option.some.injEq] at ho
            subst ho
            have hbi : b6 = false := by simpa using hun
            subst hbi
            have hd5 : b5 = true := by have := hdep ⟨5, .data⟩ (by simp) rfl; simpa using this
            have hd4 : b4 = true := (e5 hd5).2
            have hd3 : b3 = true := (e5 hd5).1
            have hd2 : b2 = true := (e3 hd3)
            subst hd2 hd3 hd4 hd5
            obtain rfl : b7 = false := Bool.eq_false_iff.2 (fun h => Bool.noConfusion (e7 h))
            obtain rfl : b8 = false := Bool.eq_false_iff.2 (fun h => Bool.noConfusion (e8 h).2)
            obtain rfl : b10 = false := Bool.eq_false_iff.2 (fun h => Bool.noConfusion (e10 h).2)
            refine wpOpIn_step rfl (fun K hK => ?_)
            clear hun hdep hi
            go_simp
            refine ⟨trivial, (callsIn_wide.2 (HMK.out _ w' (freshI_ints2 (hR.pcol rfl rfl) HCIK.out))).mono ?_⟩
            rintro e w'' ⟨yg, rfl, hF, hb'⟩
            refine hK _ _ ⟨b0, b1, true, true, true, true, true, false, false, b9, false, v', gx, yg, hq, ⟨e1, fun _ => rfl, fun _ => ⟨rfl, rfl⟩, fun _ => rfl, fun h => Bool.noConfusion h, fun h => Bool.noConfusion h, fun h => Bool.noConfusion h⟩, rfl, rfl, hR.call6 hF hb'⟩
          · -- 7
            simp only [List.getElem?_toArray, List.getElem?_cons_succ, List.getElem?_cons_zero, Option.some.injEq] at ho
            subst ho
            have hbi : b7 = false := by simpa using hun
            subst hbi
            have hd6 : b6 = true := by have := hdep ⟨6, .data⟩ (by simp) rfl; simpa using this
            have hd5 : b5 = true := (e6 hd6)
            have hd4 : b4 = true := (e5 hd5).2
            have hd3 : b3 = true := (e5 hd5).1
            have hd2 : b2 = true := (e3 hd3)
            subst hd2 hd3 hd4 hd5 hd6
            obtain rfl : b8 = false := Bool.eq_false_iff.2 (fun h => Bool.noConfusion (e8 h).2)
            obtain rfl : b10 = false := Bool.eq_false_iff.2 (fun h => Bool.noConfusion (e10 h).2)
            refine wpOpIn_step rfl (fun K hK => ?_)
            clear hun hdep hi
            go_simp
            refine hK _ _ ⟨b0, b1, true, true, true, true, true, true, false, b9, false, v', gx, gr, w'.heap.size, ⟨e1, fun _ => rfl, fun _ => ⟨rfl, rfl⟩, fun _ => rfl, fun _ => rfl, fun h => Bool.noConfusion h, fun h => Bool.noConfusion h⟩, rfl, rfl, hR.box_⟩
          · -- 8
            simp only [List.getElem?_toArray, List.getElem?_cons_succ, List.getElem?_cons_zero, Option.some.injEq] at ho
            subst ho
            have hbi : b8 = false := by simpa using hun
            subst hbi
            have hd1 : b1 = true := by have := hdep ⟨1, .data⟩ (by simp) rfl; simpa using this
            have hd7 : b7 = true := by have := hdep ⟨7, .data⟩ (by simp) rfl; simpa using this
            have hd6 : b6 = true := (e7 hd7)
            have hd5 : b5 = true := (e6 hd6)
            have hd4 : b4 = true := (e5 hd5).2
            have hd3 : b3 = true := (e5 hd5).1
            have hd2 : b2 = true := (e3 hd3)
            have hd0 : b0 = true := (e1 hd1)
            subst hd0 hd1 hd2 hd3 hd4 hd5 hd6 hd7
            obtain rfl : b10 = false := Bool.eq_false_iff.2 (fun h => Bool.noConfusion (e10 h).2)
            refine wpOpIn_step rfl (fun K hK => ?_)
            clear hun hdep hi
            refine PR.stepIn_append_liesP _ rfl _ _ 22 rfl 0 23 i0 (.slice none 0 0) 1 24 Try.underlying22 hi' hzz0 hzz1 hzz2 rfl (by decide) a k vs rfl (HOW.out _ (hR.low rfl)) ⟨hq, 0, none⟩ 1 1 [.slice (some ⟨gr, 0, none⟩) m m] rfl rfl (news_one (hR.box rfl rfl)) (by simp [Value.oneCell']) (by decide) (by unfold maxLen; omega) (by omega) (Nat.zero_le _) ?_
            intro g2 cap w'' hown hgrow hat hgl
            refine hK _ _ ⟨true, true, true, true, true, true, true, true, true, b9, false, (.slice (some ⟨g2, 0, none⟩) (k + 1) cap), gx, gr, hq, ⟨fun _ => rfl, fun _ => rfl, fun _ => ⟨rfl, rfl⟩, fun _ => rfl, fun _ => rfl, fun _ => ⟨rfl, rfl⟩, fun h => Bool.noConfusion h⟩, rfl, rfl, hR.app_ hown hgrow hat hgl⟩
          · -- 9
            simp only [List.getElem?_toArray, List.getElem?_cons_succ, List.getElem?_cons_zero, Option.some.injEq] at ho
            subst ho
            have hbi : b9 = false := by simpa using hun
            subst hbi
            obtain rfl : b10 = false := Bool.eq_false_iff.2 (fun h => Bool.noConfusion (e10 h).1)
            refine wpOpIn_step rfl (fun K hK => ?_)
            clear hun hdep hi
            go_simp
            refine hK _ _ ⟨b0, b1, b2, b3, b4, b5, b6, b7, b8, true, false, v', gx, gr, hq, ⟨e1, e3, e5, e6, e7, e8, fun h => Bool.noConfusion h⟩, rfl, rfl, hR⟩
          · -- 10
            simp only [List.getElem?_toArray, List.getElem?_cons_succ, List.getElem?_cons_zero, Option.some.injEq] at ho
            subst ho
            have hbi : b10 = false := by simpa using hun
            subst hbi
            have hd8 : b8 = true := by have := hdep ⟨8, .data⟩ (by simp) rfl; simpa using this
            have hd9 : b9 = true := by have := hdep ⟨9, .data⟩ (by simp) rfl; simpa using this
            have hd7 : b7 = true := (e8 hd8).2
            have hd6 : b6 = true := (e7 hd7)
            have hd5 : b5 = true := (e6 hd6)
            have hd4 : b4 = true := (e5 hd5).2
            have hd3 : b3 = true := (e5 hd5).1
            have hd2 : b2 = true := (e3 hd3)
            have hd1 : b1 = true := (e8 hd8).1
            have hd0 : b0 = true := (e1 hd1)
            subst hd0 hd1 hd2 hd3 hd4 hd5 hd6 hd7 hd8 hd9
            refine wpOpIn_step rfl (fun K hK => ?_)
            clear hun hdep hi
            obtain ⟨w3', g2, cap, rfl, hl3', -, -, hgr, -, -⟩ := hR.app rfl rfl
            obtain ⟨-, f2', f3'⟩ := HPV.out.far hl3' hgr HPV.out.aN
            have t0 := (f2' 2).trans HPV.out.k2
            have t1 := f3' 2
            clear f2' f3' hl3' hgr
            go_simp
            refine hK _ _ ⟨true, true, true, true, true, true, true, true, true, true, true, (.slice (some ⟨g2, 0, none⟩) (k + 1) cap), gx, gr, hq, ⟨fun _ => rfl, fun _ => rfl, fun _ => ⟨rfl, rfl⟩, fun _ => rfl, fun _ => rfl, fun _ => ⟨rfl, rfl⟩, fun _ => ⟨rfl, rfl⟩⟩, rfl, rfl, hR.store_ HPV.out HGL.out HB.out⟩
      · obtain rfl : k = n := by omega
        have q0 := hP.k0
        have q1 := hP.k1
        have q2 := hP.k2
        have q3 := hP.k3
        have z0 := hg6.r0
        have z1 := hg6.r1
        have z2 := hg6.r2
        have z3 := hg6.r3
        have f0 := hg6.f 0
        have f1 := hg6.f 1
        have f2 := hg6.f 2
        have f3 := hg6.f 3
        have hgz := hP.lt
        have hwz := hg6.z
        have hne : g ≠ w.heap.size + 1 := by have := hP.BN; omega
        obtain ⟨pa, qa, rfl⟩ : ∃ b c, a = .slice b k c := by
          rcases hP.rng.oa.top.2 with ⟨rfl, h⟩ | ⟨g', cap, cur, rfl, -⟩
          · rw [duRows_length] at h
            omega
          · exact ⟨_, cap, by rw [duRows_length]⟩
        have HRES := Lib.hid (hP.result hg6 hXw)
        have HTLL := HTL
        clear hP hB hg6
        go_wp2_with fail
        refine bodyPost_ret (v := .tuple #[.agg #[.slice (some ⟨gd, 0, none⟩) m m, .slice (some ⟨gc, 0, none⟩) m m, .slice pa k qa, .slice (some ⟨gb, 0, none⟩) k k], .int .i64 0]) (by simp [*, results, Try.results50, go_sem]) rfl ?_
        have hres := HRES.out
        unfold OutWx
        dsimp only
        rw [HTLL.out, HNB.out, HNC.out, duRows_length]
        exact ⟨_, _, _, _, _, _, _, _, rfl, hres.1, hres.2⟩
  · exact ⟨false, false, false, false, false, false, false, false, false, false, false, false, false, 0, 0, 0, 0, [], by simp, rfl, rfl, (DuR.start W _ _ _ _ _ _ _ _).next (Below.refl _ _).drew⟩
  · rintro listed ac w' i oi ⟨b0, b1, b2, b3, b4, b5, b6, b7, b8, b9, b10, b11, b12, gd, gc, gb, g, us, ⟨e1, e2, e3, e5, e6, e8, e9, e10, e12⟩, rfl, rfl, hR⟩ ho hun hdep
    have hi : i < 13 := by simpa using (Array.getElem?_eq_some_iff.1 ho).1
    obtain rfl | rfl | rfl | rfl | rfl | rfl | rfl | rfl | rfl | rfl | rfl | rfl | rfl : i = 0 ∨ i = 1 ∨ i = 2 ∨ i = 3 ∨ i = 4 ∨ i = 5 ∨ i = 6 ∨ i = 7 ∨ i = 8 ∨ i = 9 ∨ i = 10 ∨ i = 11 ∨ i = 12 := by omega
    · -- 0
      simp only [List.getElem?_toArray, List.getElem?_cons_zero, Option.some.injEq] at ho
      subst ho
      have hbi : b0 = false := by simpa using hun
      subst hbi
      obtain rfl : b1 = false := Bool.eq_false_iff.2 (fun h => Bool.noConfusion (e1 h))
      obtain rfl : b2 = false := Bool.eq_false_iff.2 (fun h => Bool.noConfusion (e2 h))
      obtain rfl : b3 = false := Bool.eq_false_iff.2 (fun h => Bool.noConfusion (e3 h))
      obtain rfl : b6 = false := Bool.eq_false_iff.2 (fun h => Bool.noConfusion (e6 h).2)
      obtain rfl : b9 = false := Bool.eq_false_iff.2 (fun h => Bool.noConfusion (e9 h).2)
      obtain rfl : b10 = false := Bool.eq_false_iff.2 (fun h => Bool.noConfusion (e10 h).1)
      obtain rfl : b12 = false := Bool.eq_false_iff.2 (fun h => Bool.noConfusion (e12 h).2)
      refine wpOpIn_step rfl (fun K hK => ?_)
      clear hun hdep hi
      go_simp
      refine hK _ _ ⟨true, false, false, false, b4, b5, false, b7, b8, false, false, b11, false, gd, gc, gb, g, us, ⟨fun h => Bool.noConfusion h, fun h => Bool.noConfusion h, fun h => Bool.noConfusion h, e5, fun h => Bool.noConfusion h, e8, fun h => Bool.noConfusion h, fun h => Bool.noConfusion h, fun h => Bool.noConfusion h⟩, rfl, rfl, hR⟩
    · -- 1
      simp only [List.getElem?_toArray, List.getElem?_cons_succ, List.getElem?_cons_zero, Option.some.injEq] at ho
      subst ho
      have hbi : b1 = false := by simpa using hun
      subst hbi
      have hd0 : b0 = true := by have := hdep ⟨0, .data⟩ (by simp) rfl; simpa using this
      subst hd0
      obtain rfl : b2 = false := Bool.eq_false_iff.2 (fun h => Bool.noConfusion (e2 h))
      obtain rfl : b3 = false := Bool.eq_false_iff.2 (fun h => Bool.noConfusion (e3 h))
      obtain rfl : b6 = false := Bool.eq_false_iff.2 (fun h => Bool.noConfusion (e6 h).2)
      obtain rfl : b9 = false := Bool.eq_false_iff.2 (fun h => Bool.noConfusion (e9 h).2)
      obtain rfl : b10 = false := Bool.eq_false_iff.2 (fun h => Bool.noConfusion (e10 h).1)
      obtain rfl : b12 = false := Bool.eq_false_iff.2 (fun h => Bool.noConfusion (e12 h).2)
      refine wpOpIn_step rfl (fun K hK => ?_)
      clear hun hdep hi
      have t0 := (hR.low.cell (p := ⟨w.heap.size, 2, none⟩) hzW).trans k2
      go_simp
      refine hK _ _ ⟨true, true, false, false, b4, b5, false, b7, b8, false, false, b11, false, gd, gc, gb, g, us, ⟨fun _ => rfl, fun h => Bool.noConfusion h, fun h => Bool.noConfusion h, e5, fun h => Bool.noConfusion h, e8, fun h => Bool.noConfusion h, fun h => Bool.noConfusion h, fun h => Bool.noConfusion h⟩, rfl, rfl, hR⟩
    · -- 2
      simp only [List.getElem?_toArray, List.getElem?_cons_succ, List.getElem?_cons_zero, Option.some.injEq] at ho
      subst ho
      have hbi : b2 = false := by simpa using hun
      subst hbi
      have hd1 : b1 = true := by have := hdep ⟨1, .data⟩ (by simp) rfl; simpa using this
      have hd0 : b0 = true := (e1 hd1)
      subst hd0 hd1
      obtain rfl : b3 = false := Bool.eq_false_iff.2 (fun h => Bool.noConfusion (e3 h))
      obtain rfl : b6 = false := Bool.eq_false_iff.2 (fun h => Bool.noConfusion (e6 h).2)
      obtain rfl : b9 = false := Bool.eq_false_iff.2 (fun h => Bool.noConfusion (e9 h).2)
      obtain rfl : b10 = false := Bool.eq_false_iff.2 (fun h => Bool.noConfusion (e10 h).1)
      obtain rfl : b12 = false := Bool.eq_false_iff.2 (fun h => Bool.noConfusion (e12 h).2)
      refine wpOpIn_step rfl (fun K hK => ?_)
      clear hun hdep hi
      go_simp
      refine hK _ _ ⟨true, true, true, false, b4, b5, false, b7, b8, false, false, b11, false, gd, gc, gb, g, us, ⟨fun _ => rfl, fun _ => rfl, fun h => Bool.noConfusion h, e5, fun h => Bool.noConfusion h, e8, fun h => Bool.noConfusion h, fun h => Bool.noConfusion h, fun h => Bool.noConfusion h⟩, rfl, rfl, hR⟩
    · -- 3
      simp only [List.getElem?_toArray, List.getElem?_cons_succ, List.getElem?_cons_zero, Option.some.injEq] at ho
      subst ho
      have hbi : b3 = false := by simpa using hun
      subst hbi
      have hd2 : b2 = true := by have := hdep ⟨2, .data⟩ (by simp) rfl; simpa using this
      have hd1 : b1 = true := (e2 hd2)
      have hd0 : b0 = true := (e1 hd1)
      subst hd0 hd1 hd2
      obtain rfl : b6 = false := Bool.eq_false_iff.2 (fun h => Bool.noConfusion (e6 h).2)
      obtain rfl : b9 = false := Bool.eq_false_iff.2 (fun h => Bool.noConfusion (e9 h).2)
      obtain rfl : b10 = false := Bool.eq_false_iff.2 (fun h => Bool.noConfusion (e10 h).1)
      obtain rfl : b12 = false := Bool.eq_false_iff.2 (fun h => Bool.noConfusion (e12 h).2)
      refine wpOpIn_step rfl (fun K hK => ?_)
      clear hun hdep hi
      go_simp
      refine ⟨trivial, (callsIn_wide.2 (HSQ.out w')).mono ?_⟩
      rintro e w'' ⟨yus, rfl, hF, hb'⟩
      refine hK _ _ ⟨true, true, true, true, b4, b5, false, b7, b8, false, false, b11, false, w'.heap.size, gc, gb, g, yus, ⟨fun _ => rfl, fun _ => rfl, fun _ => rfl, e5, fun h => Bool.noConfusion h, e8, fun h => Bool.noConfusion h, fun h => Bool.noConfusion h, fun h => Bool.noConfusion h⟩, rfl, rfl, hR.callD hF.ownRs hb'⟩
    · -- 4
      simp only [List.getElem?_toArray, List.getElem?_cons_succ, List.getElem?_cons_zero, Option.some.injEq] at ho
      subst ho
      have hbi : b4 = false := by simpa using hun
      subst hbi
      obtain rfl : b5 = false := Bool.eq_false_iff.2 (fun h => Bool.noConfusion (e5 h))
      obtain rfl : b6 = false := Bool.eq_false_iff.2 (fun h => Bool.noConfusion (e6 h).1)
      obtain rfl : b9 = false := Bool.eq_false_iff.2 (fun h => Bool.noConfusion (e9 h).2)
      obtain rfl : b10 = false := Bool.eq_false_iff.2 (fun h => Bool.noConfusion (e10 h).2.1)
      obtain rfl : b12 = false := Bool.eq_false_iff.2 (fun h => Bool.noConfusion (e12 h).2)
      refine wpOpIn_step rfl (fun K hK => ?_)
      clear hun hdep hi
      go_simp
      refine hK _ _ ⟨b0, b1, b2, b3, true, false, false, b7, b8, false, false, b11, false, gd, gc, gb, g, us, ⟨e1, e2, e3, fun h => Bool.noConfusion h, fun h => Bool.noConfusion h, e8, fun h => Bool.noConfusion h, fun h => Bool.noConfusion h, fun h => Bool.noConfusion h⟩, rfl, rfl, hR⟩
    · -- 5
      simp only [List.getElem?_toArray, List.getElem?_cons_succ, List.getElem?_cons_zero, Option.some.injEq] at ho
      subst ho
      have hbi : b5 = false := by simpa using hun
      subst hbi
      have hd4 : b4 = true := by have := hdep ⟨4, .data⟩ (by simp) rfl; simpa using this
      subst hd4
      obtain rfl : b6 = false := Bool.eq_false_iff.2 (fun h => Bool.noConfusion (e6 h).1)
      obtain rfl : b9 = false := Bool.eq_false_iff.2 (fun h => Bool.noConfusion (e9 h).2)
      obtain rfl : b10 = false := Bool.eq_false_iff.2 (fun h => Bool.noConfusion (e10 h).2.1)
      obtain rfl : b12 = false := Bool.eq_false_iff.2 (fun h => Bool.noConfusion (e12 h).2)
      refine wpOpIn_step rfl (fun K hK => ?_)
      clear hun hdep hi
      have t0 := (hR.low.cell (p := ⟨w.heap.size, 3, none⟩) hzW).trans k3
      go_simp
      refine hK _ _ ⟨b0, b1, b2, b3, true, true, false, b7, b8, false, false, b11, false, gd, gc, gb, g, us, ⟨e1, e2, e3, fun _ => rfl, fun h => Bool.noConfusion h, e8, fun h => Bool.noConfusion h, fun h => Bool.noConfusion h, fun h => Bool.noConfusion h⟩, rfl, rfl, hR⟩
    · -- 6
      simp only [List.getElem?_toArray, List.getElem?_cons_succ, List.getElem?_cons_zero, Option.some.injEq] at ho
      subst ho
      have hbi : b6 = false := by simpa using hun
      subst hbi
      have hd3 : b3 = true := by have := hdep ⟨3, .chain⟩ (by simp) rfl; simpa using this
      have hd5 : b5 = true := by have := hdep ⟨5, .data⟩ (by simp) rfl; simpa using this
      have hd4 : b4 = true := (e5 hd5)
      have hd2 : b2 = true := (e3 hd3)
      have hd1 : b1 = true := (e2 hd2)
      have hd0 : b0 = true := (e1 hd1)
      subst hd0 hd1 hd2 hd3 hd4 hd5
      obtain rfl : b9 = false := Bool.eq_false_iff.2 (fun h => Bool.noConfusion (e9 h).2)
      obtain rfl : b10 = false := Bool.eq_false_iff.2 (fun h => Bool.noConfusion (e10 h).2.1)
      obtain rfl : b12 = false := Bool.eq_false_iff.2 (fun h => Bool.noConfusion (e12 h).2)
      refine wpOpIn_step rfl (fun K hK => ?_)
      clear hun hdep hi
      go_simp
      refine ⟨trivial, (callsIn_wide.2 (HMB.out w' (HG2.out.b.trans (hR.low.mono HG2.out.b.size)))).mono ?_⟩
      rintro e w'' ⟨yg, rfl, hF, hb'⟩
      refine hK _ _ ⟨true, true, true, true, true, true, true, b7, b8, false, false, b11, false, gd, yg, gb, g, us, ⟨fun _ => rfl, fun _ => rfl, fun _ => rfl, fun _ => rfl, fun _ => ⟨rfl, rfl⟩, e8, fun h => Bool.noConfusion h, fun h => Bool.noConfusion h, fun h => Bool.noConfusion h⟩, rfl, rfl, hR.callC hF hb'⟩
    · -- 7
      simp only [List.getElem?_toArray, List.getElem?_cons_succ, List.getElem?_cons_zero, Option.some.injEq] at ho
      subst ho
      have hbi : b7 = false := by simpa using hun
      subst hbi
      obtain rfl : b8 = false := Bool.eq_false_iff.2 (fun h => Bool.noConfusion (e8 h))
      obtain rfl : b9 = false := Bool.eq_false_iff.2 (fun h => Bool.noConfusion (e9 h).1)
      obtain rfl : b10 = false := Bool.eq_false_iff.2 (fun h => Bool.noConfusion (e10 h).2.2)
      obtain rfl : b12 = false := Bool.eq_false_iff.2 (fun h => Bool.noConfusion (e12 h).2)
      refine wpOpIn_step rfl (fun K hK => ?_)
      clear hun hdep hi
      go_simp
      refine hK _ _ ⟨b0, b1, b2, b3, b4, b5, b6, true, false, false, false, b11, false, gd, gc, gb, g, us, ⟨e1, e2, e3, e5, e6, fun h => Bool.noConfusion h, fun h => Bool.noConfusion h, fun h => Bool.noConfusion h, fun h => Bool.noConfusion h⟩, rfl, rfl, hR⟩
    · -- 8
      simp only [List.getElem?_toArray, List.getElem?_cons_succ, List.getElem?_cons_zero, Option.some.injEq] at ho
      subst ho
      have hbi : b8 = false := by simpa using hun
      subst hbi
      have hd7 : b7 = true := by have := hdep ⟨7, .data⟩ (by simp) rfl; simpa using this
      subst hd7
      obtain rfl : b9 = false := Bool.eq_false_iff.2 (fun h => Bool.noConfusion (e9 h).1)
      obtain rfl : b10 = false := Bool.eq_false_iff.2 (fun h => Bool.noConfusion (e10 h).2.2)
      obtain rfl : b12 = false := Bool.eq_false_iff.2 (fun h => Bool.noConfusion (e12 h).2)
      refine wpOpIn_step rfl (fun K hK => ?_)
      clear hun hdep hi
      have t0 := (hR.low.cell (p := ⟨w.heap.size, 1, none⟩) hzW).trans k1
      go_simp
      refine hK _ _ ⟨b0, b1, b2, b3, b4, b5, b6, true, true, false, false, b11, false, gd, gc, gb, g, us, ⟨e1, e2, e3, e5, e6, fun _ => rfl, fun h => Bool.noConfusion h, fun h => Bool.noConfusion h, fun h => Bool.noConfusion h⟩, rfl, rfl, hR⟩
    · -- 9
      simp only [List.getElem?_toArray, List.getElem?_cons_succ, List.getElem?_cons_zero, Option.some.injEq] at ho
      subst ho
      have hbi : b9 = false := by simpa using hun
      subst hbi
      have hd6 : b6 = true := by have := hdep ⟨6, .chain⟩ (by simp) rfl; simpa using this
      have hd8 : b8 = true := by have := hdep ⟨8, .data⟩ (by simp) rfl; simpa using this
      have hd7 : b7 = true := (e8 hd8)
      have hd5 : b5 = true := (e6 hd6).1
      have hd4 : b4 = true := (e5 hd5)
      have hd3 : b3 = true := (e6 hd6).2
      have hd2 : b2 = true := (e3 hd3)
      have hd1 : b1 = true := (e2 hd2)
      have hd0 : b0 = true := (e1 hd1)
      subst hd0 hd1 hd2 hd3 hd4 hd5 hd6 hd7 hd8
      obtain rfl : b10 = false := Bool.eq_false_iff.2 (fun h => Bool.noConfusion (e10 h).2.2)
      obtain rfl : b12 = false := Bool.eq_false_iff.2 (fun h => Bool.noConfusion (e12 h).2)
      refine wpOpIn_step rfl (fun K hK => ?_)
      clear hun hdep hi
      go_simp
      refine ⟨trivial, (callsIn_wide.2 (HMC.out w' (HG2.out.b.trans (hR.low.mono HG2.out.b.size)))).mono ?_⟩
      rintro e w'' ⟨yg, rfl, hF, hb'⟩
      refine hK _ _ ⟨true, true, true, true, true, true, true, true, true, true, false, b11, false, gd, gc, yg, g, us, ⟨fun _ => rfl, fun _ => rfl, fun _ => rfl, fun _ => rfl, fun _ => ⟨rfl, rfl⟩, fun _ => rfl, fun _ => ⟨rfl, rfl⟩, fun h => Bool.noConfusion h, fun h => Bool.noConfusion h⟩, rfl, rfl, hR.callB hF hb'⟩
    · -- 10
      simp only [List.getElem?_toArray, List.getElem?_cons_succ, List.getElem?_cons_zero, Option.some.injEq] at ho
      subst ho
      have hbi : b10 = false := by simpa using hun
      subst hbi
      have hd3 : b3 = true := by have := hdep ⟨3, .data⟩ (by simp) rfl; simpa using this
      have hd6 : b6 = true := by have := hdep ⟨6, .data⟩ (by simp) rfl; simpa using this
      have hd9 : b9 = true := by have := hdep ⟨9, .data⟩ (by simp) rfl; simpa using this
      have hd8 : b8 = true := (e9 hd9).1
      have hd7 : b7 = true := (e8 hd8)
      have hd5 : b5 = true := (e6 hd6).1
      have hd4 : b4 = true := (e5 hd5)
      have hd2 : b2 = true := (e3 hd3)
      have hd1 : b1 = true := (e2 hd2)
      have hd0 : b0 = true := (e1 hd1)
      subst hd0 hd1 hd2 hd3 hd4 hd5 hd6 hd7 hd8 hd9
      obtain rfl : b12 = false := Bool.eq_false_iff.2 (fun h => Bool.noConfusion (e12 h).2)
      refine wpOpIn_step rfl (fun K hK => ?_)
      clear hun hdep hi
      go_simp
      refine hK _ _ ⟨true, true, true, true, true, true, true, true, true, true, true, b11, false, gd, gc, gb, g, us, ⟨fun _ => rfl, fun _ => rfl, fun _ => rfl, fun _ => rfl, fun _ => ⟨rfl, rfl⟩, fun _ => rfl, fun _ => ⟨rfl, rfl⟩, fun _ => ⟨rfl, rfl, rfl⟩, fun h => Bool.noConfusion h⟩, rfl, rfl, hR⟩
    · -- 11
      simp only [List.getElem?_toArray, List.getElem?_cons_succ, List.getElem?_cons_zero, Option.some.injEq] at ho
      subst ho
      have hbi : b11 = false := by simpa using hun
      subst hbi
      obtain rfl : b12 = false := Bool.eq_false_iff.2 (fun h => Bool.noConfusion (e12 h).1)
      refine wpOpIn_step rfl (fun K hK => ?_)
      clear hun hdep hi
      go_simp
      refine hK _ _ ⟨b0, b1, b2, b3, b4, b5, b6, b7, b8, b9, b10, true, false, gd, gc, gb, w'.heap.size, us, ⟨e1, e2, e3, e5, e6, e8, e9, e10, fun h => Bool.noConfusion h⟩, rfl, rfl, hR.box_⟩
    · -- 12
      simp only [List.getElem?_toArray, List.getElem?_cons_succ, List.getElem?_cons_zero, Option.some.injEq] at ho
      subst ho
      have hbi : b12 = false := by simpa using hun
      subst hbi
      have hd10 : b10 = true := by have := hdep ⟨10, .data⟩ (by simp) rfl; simpa using this
      have hd11 : b11 = true := by have := hdep ⟨11, .data⟩ (by simp) rfl; simpa using this
      have hd9 : b9 = true := (e10 hd10).2.2
      have hd8 : b8 = true := (e9 hd9).1
      have hd7 : b7 = true := (e8 hd8)
      have hd6 : b6 = true := (e9 hd9).2
      have hd5 : b5 = true := (e6 hd6).1
      have hd4 : b4 = true := (e5 hd5)
      have hd3 : b3 = true := (e6 hd6).2
      have hd2 : b2 = true := (e3 hd3)
      have hd1 : b1 = true := (e2 hd2)
      have hd0 : b0 = true := (e1 hd1)
      subst hd0 hd1 hd2 hd3 hd4 hd5 hd6 hd7 hd8 hd9 hd10 hd11
      refine wpOpIn_step rfl (fun K hK => ?_)
      clear hun hdep hi
      obtain ⟨z1, z2, z3⟩ := hR.box rfl
      obtain ⟨t0, t1, t2, t3⟩ := hR.zero rfl rfl
      have f0 := z3 0
      have f1 := z3 1
      have f2 := z3 2
      have f3 := z3 3
      clear z1 z3
      go_simp
      refine hK _ _ ⟨true, true, true, true, true, true, true, true, true, true, true, true, true, gd, gc, gb, g, us, ⟨fun _ => rfl, fun _ => rfl, fun _ => rfl, fun _ => rfl, fun _ => ⟨rfl, rfl⟩, fun _ => rfl, fun _ => ⟨rfl, rfl⟩, fun _ => ⟨rfl, rfl, rfl⟩, fun _ => ⟨rfl, rfl⟩⟩, rfl, rfl, hR.store_⟩
end Go.Proofs.Ytgncaploccbfnaa.PW
