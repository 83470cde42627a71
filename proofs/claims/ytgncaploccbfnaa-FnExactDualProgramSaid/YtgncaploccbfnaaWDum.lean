/-
  DualProgram: what the model's helpers answer.
-/
import Derived.Test.YtgncaploccbfnaaWDuh
namespace Go.Proofs.Ytgncaploccbfnaa.PW
open Go.RowKit Go.Proofs.Ytgncaploccbfnaa
open Go.Proofs.Ytgncaploccbfnaa.PM Go.Proofs.Ytgncaploccbfnaa.PX

set_option maxRecDepth 100000 in
set_option maxHeartbeats 2000000 in
theorem l09Linear_any (d c a b : Value) (D : List (List Int)) (C : List Int) (A : List (List Int)) (B : List Int) (w : World) (h1 : PM.Rows w d D) (h2 : Ints w c C) (h3 : PM.Rows w a A) (h4 : Ints w b B) (hc : isWB D C A B = true) :
    Calls Try.prog 110 #[.agg #[d, c, a, b]] w fun e w' => e = .returned (.bool (linB D)) ∧ Below w.heap.size w w' := by
  have hW := (isWB_is D C A B).1 hc
  obtain ⟨BD, off, cd, rfl, hBD, hTD⟩ := rowsW_at (l := C.length) h1 (by rw [hW.d]; exact hW.n1) hW.n1 (fun i hi => hW.dr i (by rw [← hW.d]; exact hi))
  obtain ⟨x2, y2, rfl, _⟩ := h2
  obtain ⟨x3, y3, rfl, _⟩ := h3
  obtain ⟨x4, y4, rfl, _⟩ := h4
  have HL := Lib.hid (lin_iff hW.d hW.dr)
  have hD5 : C.length ≤ 5 := by have := hW.n5; omega
  rw [hW.d] at hTD ⊢
  have HTD := Lib.hid hTD
  generalize linB D = OUT at *
  clear h1 hc hW hTD
  obtain ⟨n, hn⟩ : ∃ n, n = C.length := ⟨_, rfl⟩
  rw [← hn] at HTD HL hD5 ⊢
  clear hn
  obtain ⟨W0, hW0⟩ : ∃ W0, W0 = w.alloc (.cells #[.slice (some ⟨BD, off, none⟩) n cd, .slice x2 n y2, .slice x3 A.length y3, .slice x4 B.length y4] 54) := ⟨_, rfl⟩
  have hb0 : Below w.heap.size w W0 := by rw [hW0]; exact (Below.refl _ _).alloc (Nat.le_refl _) _
  have k0 : W0.cell? ⟨w.heap.size, 0, none⟩ = some (.slice (some ⟨BD, off, none⟩) n cd) := by rw [hW0]; simp
  have HB0 := Lib.hid hb0
  have HW0 := Lib.hid hW0
  clear hW0 hb0
  go_enter Try.func110, Try.ntmps110
  go_wp2_with fail
  rw [← HW0.out]
  go_wp2_with fail
  go_loopw [3, 4] (fun i _ wr => ∃ k : Nat, k ≤ n ∧ i = .int .i64 k ∧ Hid (∀ i, i < k → ∀ j, j < n → wE D i j = 0) ∧ wr = W0) (fun i _ _ => n - (intOf i).toNat)
  case atStart => exact ⟨0, Nat.zero_le _, rfl, fun j hj => absurd hj (Nat.not_lt_zero _), rfl⟩
  case round =>
    obtain ⟨k, hk, rfl, hgood, hw⟩ := hrel
    have hw' := hw.symm
    clear hw
    subst hw'
    by_cases hlt : k < n
    · obtain ⟨r, o, dd, hr, t1, _, t3⟩ := HTD.out k hlt
      have t1 := (HB0.out.cell (p := ⟨BD, off + k, none⟩) hBD).trans t1
      have HT3 := Lib.hid (fun j hj => (HB0.out.cell (p := ⟨r, o + j, none⟩) hr).trans (t3 j hj))
      have hkn : (k : Int) < n := by omega
      clear t3
      go_wp2_with fail
      go_loopw [4] (fun i wr => ∃ l : Nat, l ≤ n ∧ i = .int .i64 l ∧ Hid (∀ j, j < l → wE D k j = 0) ∧ wr = W0) (fun i _ => n - (intOf i).toNat)
      case atStart => exact ⟨0, Nat.zero_le _, rfl, fun j hj => absurd hj (Nat.not_lt_zero _), rfl⟩
      case round =>
        obtain ⟨l, hl, rfl, hgl, hw⟩ := hrel
        have hw' := hw.symm
        clear hw
        subst hw'
        by_cases hltl : l < n
        · have t3 := HT3.out l hltl
          by_cases hx : wE D k l = 0
          · rw [hx] at t3
            have hg2 : Hid (∀ j, j < l + 1 → wE D k j = 0) := fun j hj => by
              by_cases e : j = l
              · subst e; exact hx
              · exact hgl.out j (by omega)
            clear hx hgl
            go_wp2_with fail
            go_roundw
            case rel => exact ⟨l + 1, by omega, by go_num, hg2, trivial⟩
            case measure => simp [intOf]; omega
          · have hO : OUT = false := Bool.eq_false_iff.2 (fun e => hx ((HL.out.1 e) k hlt l hltl))
            subst hO
            have hxb : (wE D k l != 0) = true := by simpa using hx
            generalize wE D k l = x at *
            clear hgl
            go_wp2_with fail
            go_ret
            exact ⟨rfl, HB0.out⟩
        · obtain rfl : l = n := by omega
          have hg2 : Hid (∀ i, i < k + 1 → ∀ j, j < l → wE D i j = 0) := fun i hi j hj => by
            by_cases e : i = k
            · subst e; exact hgl.out j hj
            · exact hgood.out i (by omega) j hj
          clear hgl hgood
          go_wp2_with fail
          go_roundw
          case rel => exact ⟨k + 1, by omega, by go_num, hg2, trivial⟩
          case measure => simp [intOf]; omega
    · obtain rfl : k = n := by omega
      have hO : OUT = true := HL.out.2 hgood.out
      subst hO
      clear hgood
      go_wp2_with fail
      go_ret
      exact ⟨rfl, HB0.out⟩

theorem negL_length (B : List Int) : (negL B).length = B.length := by simp [negL]
theorem negL_snoc (B : List Int) (k : Nat) (h : k < B.length) : negL (B.take (k + 1)) = negL (B.take k) ++ [-(B.getD k 0)] := by
  unfold negL
  rw [List.take_add_one, List.map_append]
  congr 1
  simp [List.getElem?_eq_getElem h]
set_option maxRecDepth 100000 in
set_option maxHeartbeats 2000000 in
theorem l09Minus_any (v : Value) (L : List Int) (w : World) (hv : Ints w v L) (hn1 : 1 ≤ L.length) (hn : L.length ≤ 5) (hb : ∀ j, j < L.length → -100 ≤ L.getD j 0 ∧ L.getD j 0 ≤ 100) :
    Calls Try.prog 112 #[v] w fun e w' => ∃ g cap, e = .returned (.slice (some ⟨g, 0, none⟩) L.length cap) ∧ FreshI w.heap.size w' (.slice (some ⟨g, 0, none⟩) L.length cap) (negL L) ∧ Below w.heap.size w w' := by
  obtain ⟨b, off, c, rfl, hlt, hcell⟩ := wints_row hv hn1
  obtain ⟨j0, hj, hyy0, hyy1, hyy2⟩ := info_parts info_int
  have HC := Lib.hid hcell
  have HB := Lib.hid hb
  have HS := Lib.hid (fun k h => negL_snoc L k h)
  have HL := Lib.hid (fun k (h : k ≤ L.length) => show (negL (L.take k)).length = k by rw [negL_length]; simp; omega)
  have HA := Lib.hid (show negL (L.take L.length) = negL L by rw [List.take_length])
  have HZ := Lib.hid (show negL (L.take 0) = [] by simp [negL])
  clear hv hcell hb
  generalize negL L = NL at *
  obtain ⟨n, hnn⟩ : ∃ n, n = L.length := ⟨_, rfl⟩
  have HC := Lib.hid (fun k (hk : k < n) => HC.out k (by rw [← hnn]; exact hk))
  rw [← hnn] at HB HS HL HA hn1 hn ⊢
  clear hnn
  have HS0 := Lib.hid (freshI_nil w)
  go_enter Try.func112, Try.ntmps112
  go_wp2_with fail
  go_loopw [3, 4] (fun v i wr => ∃ k : Nat, k ≤ n ∧ i = .int .i64 k ∧ FreshI w.heap.size wr v (negL (L.take k)) ∧ Below w.heap.size w wr) (fun _ i _ => n - (intOf i).toNat)
  case atStart => exact ⟨0, Nat.zero_le _, rfl, by rw [HZ.out]; exact HS0.out, (Below.refl _ _).alloc (Nat.le_refl _) _⟩
  case round =>
    obtain ⟨k, hk, rfl, hF, hBl⟩ := hrel
    by_cases hltk : k < n
    · have t1 := (hBl.cell (p := ⟨b, off + k, none⟩) hlt).trans (HC.out k hltk)
      have hx := HB.out k hltk
      have how := hF.owns
      rw [HL.out k hk] at how
      have HOW := Lib.hid how
      have HF := Lib.hid hF
      have HBL := Lib.hid hBl
      have HSK := Lib.hid (HS.out k hltk)
      have HLK := Lib.hid (HL.out k hk)
      have hkl : (k : Int) < n := by omega
      clear how hF hBl
      generalize L.getD k 0 = x at *
      go_wp2_with (at_builtin; refine wpList_append_lies _ rfl _ _ 23 rfl 0 2 j0 (.int .i64 0) 1 8 Try.underlying23 hj hyy0 hyy1 hyy2 rfl (by decide) u3 k _ rfl ((HOW.out).alloc _) _ 1 _ [.int .i64 (- x)] rfl rfl (cell_one_new _ _ _) (by simp [Value.oneCell']) (by decide) (by unfold maxLen; omega) (by omega) (Nat.zero_le _) _ rfl ?_; intro g cap w3 hown hgrow hat hgl)
      have hpu := HF.out.push HBL.out.size HLK.out.symm hown hat hgl
      have hgr := HF.out.grow HBL.out HBL.out.size hgrow
      rw [← HSK.out] at hpu
      have HPU := Lib.hid hpu
      have HGR := Lib.hid hgr
      clear hpu hgr hown hgrow hat hgl
      go_wp2_with fail
      go_roundw
      case rel => exact ⟨k + 1, by omega, by go_num, HPU.out, HGR.out⟩
      case measure => simp [intOf]; omega
    · obtain rfl : k = n := by omega
      have hl := HL.out k (Nat.le_refl _)
      rw [HA.out] at hF hl
      obtain ⟨gv, cv, hv, _⟩ := id hF
      rw [hl] at hv
      subst hv
      have HF := Lib.hid hF
      have HBL := Lib.hid hBl
      clear hF hBl hl
      go_wp2_with fail
      go_ret
      exact ⟨_, _, rfl, HF.out, HBL.out⟩
set_option maxRecDepth 100000 in
set_option maxHeartbeats 2000000 in
theorem l09Zeros_any (n : Nat) (w : World) (hn1 : 1 ≤ n) (hn5 : n ≤ 5) :
    Calls Try.prog 111 #[.int .i64 n] w fun e w' => ∃ g cap us, e = .returned (.slice (some ⟨g, 0, none⟩) n cap) ∧ FreshR w.heap.size w' (.slice (some ⟨g, 0, none⟩) n cap) (tab n (fun _ _ => 0)) us ∧ Below w.heap.size w w' := by
  obtain ⟨i0, hi, hzz0, hzz1, hzz2⟩ := info_parts info_ints
  have hmk := run_make_row' (P := Try.prog) 23 2 (.int .i64 0) 8 Try.underlying23 info_int rfl .i64 .i64 n (by omega) (by omega)
  have HZ := Lib.hid (fun w => zeros_fresh w n (by unfold maxLen; omega))
  have HS0 := Lib.hid (freshR_nil w)
  obtain ⟨Z, hZ⟩ : ∃ Z : List Int, Z = List.replicate n 0 := ⟨_, rfl⟩
  have HT : Hid (List.replicate n Z = tab n (fun _ _ => 0)) := by
    show _ = _
    rw [hZ]
    unfold tab
    apply List.ext_getElem (by simp)
    intro i h1 h2
    simp
    apply List.ext_getElem (by simp)
    intro j h3 h4
    simp
  rw [← hZ] at HZ
  have HRS := Lib.hid (fun k => show List.replicate (k + 1) Z = List.replicate k Z ++ [Z] from List.replicate_succ')
  clear hZ
  generalize tab n (fun _ _ => 0) = T at *
  go_enter Try.func111, Try.ntmps111
  go_wp2_with fail
  go_loopw [3, 4] (fun v i wr => ∃ (k : Nat) (us : List Value), k ≤ n ∧ i = .int .i64 k ∧ FreshR w.heap.size wr v (List.replicate k Z) us ∧ Below w.heap.size w wr) (fun _ i _ => n - (intOf i).toNat)
  case atStart => exact ⟨0, [], Nat.zero_le _, rfl, HS0.out, (Below.refl _ _).alloc (Nat.le_refl _) _⟩
  case round =>
    obtain ⟨k, us, hk, rfl, hF, hBl⟩ := hrel
    by_cases hltk : k < n
    · have HF := Lib.hid hF
      have HBL := Lib.hid hBl
      have how : wr.ownsRow 0 23 1 u3 k us := by
        have := hF.own.top
        rwa [List.length_replicate] at this
      have HOW := Lib.hid how
      have HZW := Lib.hid (HZ.out wr)
      have HRK := Lib.hid (HRS.out k)
      have hkl : (k : Int) < n := by omega
      clear hF hBl how
      go_wp2_with (at_builtin; refine wpList_append_lies _ rfl _ _ 22 rfl 0 23 i0 (.slice none 0 0) 1 24 Try.underlying22 hi hzz0 hzz1 hzz2 rfl (by decide) u3 k us rfl (((HOW.out).alloc _).alloc _) _ 1 _ [.slice (some ⟨wr.heap.size, 0, none⟩) n n] rfl rfl (cell_one_at (by simp)) (by simp [Value.oneCell']) (by decide) (by unfold maxLen; omega) (by omega) (Nat.zero_le _) _ rfl ?_; intro g cap w3 hown hgrow hat hgl)
      have hal : Below wr.heap.size wr ((wr.alloc (.cells (madeCells #[.int .i64 0] n) 2)).alloc (.cells #[.slice (some ⟨wr.heap.size, 0, none⟩) n n] 23)) := ((Below.refl _ _).alloc (Nat.le_refl _) _).alloc (by simp) _
      have hpu := HF.out.push HBL.out.size (HZW.out.below ((Below.refl _ _).alloc (Nat.le_refl _) _)) hal (by simpa using hown) hgrow (by simpa using hat) hgl
      have hgr : Below w.heap.size w w3 := by
        obtain ⟨gv, cv, hv, hv1, hv2⟩ := HF.out.top
        exact (HBL.out.trans (hal.mono HBL.out.size)).grown hgrow (Nat.le_trans HBL.out.size hal.size) (fun b hb' => by rw [hv] at hb'; simp [Value.ownBlock] at hb'; omega)
      rw [← HRK.out, List.length_replicate] at hpu
      have HPU := Lib.hid hpu
      have HGR := Lib.hid hgr
      clear hpu hgr hown hgrow hat hgl hal
      go_wp2_with fail
      go_roundw
      case rel => exact ⟨k + 1, _, by omega, by go_num, HPU.out, HGR.out⟩
      case measure => simp [intOf]; omega
    · obtain rfl : k = n := by omega
      obtain ⟨gv, cv, hv, _⟩ := id hF.top
      rw [List.length_replicate] at hv
      subst hv
      rw [HT.out] at hF
      have HF := Lib.hid hF
      have HBL := Lib.hid hBl
      clear hF hBl
      go_wp2_with fail
      go_ret
      exact ⟨_, _, us, rfl, HF.out, HBL.out⟩
end Go.Proofs.Ytgncaploccbfnaa.PW
