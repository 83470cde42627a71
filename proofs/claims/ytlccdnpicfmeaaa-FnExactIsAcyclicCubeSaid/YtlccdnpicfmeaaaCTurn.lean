/-
  Walks: an orientation turned by a set, in the program.
-/
import Derived.Test.YtlccdnpicfmeaaaCArr
namespace Go.Proofs.Ytlccdnpicfmeaaa.PW
open Go.RowKit Go.Proofs.Ytlccdnpicfmeaaa
open Go.Proofs.Ytlccdnpicfmeaaa.PM

def turL (O : List Int) (s : Int) : List Int := (List.range O.length).map fun j => O.getD (j ^^^ s.toNat) 0
def turOut (D : Int) (O : List Int) (s : Int) : (Int × List Int) × Int := if cdOut D O [s] = 0 then ((D, turL O s), 0) else ((0, []), cdOut D O [s])
theorem cdOut_cases (D : Int) (O L : List Int) : cdOut D O L = 0 ∨ cdOut D O L = 1 ∨ cdOut D O L = 2 := by
  unfold cdOut; split
  · split <;> simp
  · simp
theorem cdOut_zero {D : Int} {O L : List Int} (h : cdOut D O L = 0) : isCB D O = true ∧ ∀ k, k < L.length → inC O (L.getD k 0) := by
  unfold cdOut at h
  split at h
  · rename_i h1
    split at h
    · rename_i h2; exact ⟨h1, h2⟩
    · omega
  · omega
theorem turOut_ok {D : Int} {O : List Int} {s : Int} (h : cdOut D O [s] = 0) : turOut D O s = ((D, turL O s), 0) := by unfold turOut; rw [if_pos h]
theorem turOut_no {D : Int} {O : List Int} {s : Int} (h : cdOut D O [s] ≠ 0) : turOut D O s = ((0, []), cdOut D O [s]) := by unfold turOut; rw [if_neg h]
theorem isCB_at {n : Nat} {O : List Int} (h : isCB n O = true) (j : Nat) (hj : j < 2 ^ n) : 0 ≤ O.getD j 0 ∧ O.getD j 0 < (2 : Int) ^ n := by
  obtain ⟨hl, hl2⟩ := isCB_len h
  have := ((of_decide_eq_true h).2.2 j (by omega)).1
  omega
theorem pow_le_32 {n : Nat} (h : n ≤ 5) : 2 ^ n ≤ 32 := Nat.pow_le_pow_right (show 0 < 2 by decide) h
theorem pow_le_32i {n : Nat} (h : n ≤ 5) : (2 : Int) ^ n ≤ 32 := by
  have h1 := pow_le_32 h
  have : ((2 ^ n : Nat) : Int) = (2 : Int) ^ n := by rw [Int.natCast_pow]; rfl
  omega
theorem fine_of {n : Nat} (h : n ≤ 5) (xs : List Int) (hl : xs.length ≤ 32) (hx : ∀ x ∈ xs, 0 ≤ x ∧ x < (2 : Int) ^ n) : FineI xs := by
  have := pow_le_32i h
  exact ⟨fun x hm => by have := hx x hm; show -9223372036854775808 ≤ _ ∧ _ ≤ 9223372036854775807; omega, by omega⟩
theorem ones_cb {D : Int} {O : List Int} {s : Int} (h : cdOut D O [s] = 0) : ∃ n : Nat, D = n ∧ isCB n O = true ∧ 1 ≤ n ∧ n ≤ 5 ∧ O.length = 2 ^ n ∧ (O.length : Int) = 2 ^ n ∧ 0 ≤ s ∧ s < (2 : Int) ^ n ∧ s.toNat < 2 ^ n := by
  obtain ⟨hc, hin⟩ := cdOut_zero h
  obtain ⟨hd1, hd5, _, _⟩ := isCB_facts hc
  obtain ⟨n, rfl⟩ : ∃ n : Nat, D = (n : Int) := ⟨D.toNat, by omega⟩
  obtain ⟨hl, hl2⟩ := isCB_len hc
  have h1 : inC O s := hin 0 (by simp)
  unfold inC at h1
  exact ⟨n, rfl, hc, by omega, by omega, hl, hl2, by omega, by omega, by omega⟩
theorem fine_tur (D : Int) (O : List Int) (s : Int) : FineC (turOut D O s).1 := by
  by_cases h : cdOut D O [s] = 0
  · rw [turOut_ok h]
    obtain ⟨n, rfl, hc, hn1, hn5, hl, _, h0, h1, h2⟩ := ones_cb h
    have := pow_le_32 hn5
    refine ⟨fine_of hn5 _ (by simp [turL]; omega) (fun x hx => ?_)⟩
    obtain ⟨j, hj, rfl⟩ := List.mem_map.1 hx
    exact isCB_at hc _ (Nat.xor_lt_two_pow (by rw [← hl]; simpa using hj) h2)
  · rw [turOut_no h]
    exact ⟨fineI_nil⟩
theorem outC_err {w w' : World} {c : Int} (h : Below w.heap.size w w') : OutC w ((0, []), c) (.returned (.tuple #[.agg #[.int .i64 0, .slice none 0 0], .int .i64 c])) w' :=
  ⟨_, rfl, rngI_nil _ _ _, h⟩
/-- The array while it is turned: the first k vertices have been taken. -/
def turK (O : List Int) (S k : Nat) (j : Nat) : Int := if j ^^^ S < k then O.getD (j ^^^ S) 0 else 0
theorem turK_zero (O : List Int) (S : Nat) : turK O S 0 = fun _ => 0 := by funext j; simp [turK]
theorem turK_step (O : List Int) (S k j : Nat) : (if j = k ^^^ S then O.getD k 0 else turK O S k j) = turK O S (k + 1) j := by
  unfold turK
  by_cases h : j = k ^^^ S
  · subst h
    rw [if_pos rfl, Nat.xor_assoc, Nat.xor_self, Nat.xor_zero, if_pos (by omega)]
  · rw [if_neg h]
    have h2 : j ^^^ S ≠ k := fun c => h (by rw [← c, Nat.xor_assoc, Nat.xor_self, Nat.xor_zero])
    by_cases h3 : j ^^^ S < k
    · rw [if_pos h3, if_pos (by omega)]
    · rw [if_neg h3, if_neg (by omega)]

set_option maxRecDepth 100000 in
set_option maxHeartbeats 4000000 in
theorem implTurnCube_any (D : Int) (q : Value) (O : List Int) (s : Int) (w : World) (hq : Ints w q O) :
    Calls Try.prog 49 #[.agg #[.int .i64 D, q], .int .i64 s] w (OutC w (turOut D O s)) := by
  have HCK := Lib.hid (fun w' v (h : Below w.heap.size w w') (hv : Cel w' v [s]) => checkCube_any D q v O [s] w' (hq.below h) hv (by simp))
  by_cases hcd : cdOut D O [s] = 0
  case neg =>
    rw [turOut_no hcd]
    generalize cdOut D O [s] = A at *
    obtain ⟨a, cap, rfl, _⟩ := hq
    have hab : (A != 0) = true := by simpa using hcd
    clear hcd
    go_enter Try.func49, Try.ntmps49
    go_wp2_with fail
    refine (HCK.out _ _ (by (repeat' (first | (with_reducible exact Below.refl _ _) | (with_reducible assumption) | (with_reducible refine Below.alloc ?_ ?_ _) | (with_reducible refine Below.drew ?_) | (with_reducible refine below_drewN ?_ _) | (with_reducible refine Below.setCell ?_ ?_ _) | (with_reducible refine Below.trans ?_ (Below.mono (by with_reducible assumption) ?_)) | (with_reducible exact Below.size (by with_reducible assumption)) | go_size))) (cel_one _ _ _ _ (by simp))).mono ?_
    rintro e w1 ⟨rfl, hb1⟩
    have hw1 : Below w.heap.size w w1 := by (repeat' (first | (with_reducible exact Below.refl _ _) | (with_reducible assumption) | (with_reducible refine Below.alloc ?_ ?_ _) | (with_reducible refine Below.drew ?_) | (with_reducible refine below_drewN ?_ _) | (with_reducible refine Below.setCell ?_ ?_ _) | (with_reducible refine Below.trans ?_ (Below.mono (by with_reducible assumption) ?_)) | (with_reducible exact Below.size (by with_reducible assumption)) | go_size))
    obtain ⟨hc_hb1, hf_hb1⟩ := bcell hb1; obtain ⟨hcA_hb1, hfA_hb1⟩ := bcellG (W0 := w) hb1 (by (repeat' (first | (with_reducible exact Below.refl _ _) | (with_reducible assumption) | (with_reducible refine Below.alloc ?_ ?_ _) | (with_reducible refine Below.drew ?_) | (with_reducible refine below_drewN ?_ _) | (with_reducible refine Below.setCell ?_ ?_ _) | (with_reducible refine Below.trans ?_ (Below.mono (by with_reducible assumption) ?_)) | (with_reducible exact Below.size (by with_reducible assumption)) | go_size))); have hz_hb1 := hb1.size; (try simp at hz_hb1); (try simp only [Nat.add_one_le_iff] at hz_hb1); have hz0_hb1 : w.heap.size < w1.heap.size := (by omega); have hz1_hb1 : w.heap.size + 1 < w1.heap.size := (by omega)
    clear HCK
    go_wp2_with fail
    refine bodyPost_ret (v := .tuple #[.agg #[.int .i64 0, .slice none 0 0], .int .i64 A]) (by simp [*, results, Try.results49, go_sem]) rfl ?_
    exact outC_err ((hw1.setCell (by simp) _).setCell (by simp) _)
  obtain ⟨n, rfl, hc, hn1, hn5, hl, hl2, hs0, hs1, hs2⟩ := ones_cb hcd
  rw [turOut_ok hcd]
  rw [hcd] at HCK
  clear hcd
  obtain ⟨S, rfl⟩ : ∃ S : Nat, s = (S : Int) := ⟨s.toNat, by omega⟩
  have hS : S < 2 ^ n := by omega
  have hT := pow_le_32 hn5
  have HAT := Lib.hid (isCB_at hc)
  have h63 := pow_le_32i hn5
  have HF := Lib.hid (show ∀ j, j < 2 ^ n → turK O S (2 ^ n) j = O.getD (j ^^^ S) 0 from fun j hj => by unfold turK; rw [if_pos (Nat.xor_lt_two_pow hj hS)])
  have HI64 := Lib.hid (show ∀ j, j < 2 ^ n → I64 (turK O S (2 ^ n) j) from fun j hj => by
    rw [HF.out j hj]
    have := HAT.out _ (Nat.xor_lt_two_pow hj hS)
    show -9223372036854775808 ≤ _ ∧ _ ≤ 9223372036854775807
    omega)
  have HX := Lib.hid (show ∀ k : Nat, k < 2 ^ n → bits BinOp.xor IntKind.i64 (k : Int) (S : Int) = (((k ^^^ S : Nat)) : Int) ∧ k ^^^ S < 32 from fun k hk => ⟨xb_nat k S (by omega) (by omega), by have := Nat.xor_lt_two_pow hk hS; omega⟩)
  have HR : Hid ((List.range (2 ^ n)).map (turK O S (2 ^ n)) = turL O (S : Int)) := by
    show _ = _
    unfold turL
    rw [hl, Int.toNat_natCast]
    exact List.map_congr_left (fun j hj => HF.out j (by simpa using hj))
  obtain ⟨b, off, cap, rfl, hb, hcell⟩ := Ints.at_ hq (by omega)
  have HC := Lib.hid hcell
  have HL := Lib.hid hl
  have HN := Lib.hid (And.intro hn1 hn5)
  rw [hl] at HCK HC hcell ⊢
  generalize hTT : 2 ^ n = T at *
  have HTT := Lib.hid hTT
  clear hs0 hs1 hs2 hl hl2 hc hq hcell HF hTT h63 hS hn1 hn5
  go_enter Try.func49, Try.ntmps49
  go_wp2_with fail
  refine (HCK.out _ _ (by (repeat' (first | (with_reducible exact Below.refl _ _) | (with_reducible assumption) | (with_reducible refine Below.alloc ?_ ?_ _) | (with_reducible refine Below.drew ?_) | (with_reducible refine below_drewN ?_ _) | (with_reducible refine Below.setCell ?_ ?_ _) | (with_reducible refine Below.trans ?_ (Below.mono (by with_reducible assumption) ?_)) | (with_reducible exact Below.size (by with_reducible assumption)) | go_size))) (cel_one _ _ _ _ (by simp))).mono ?_
  rintro e w1 ⟨rfl, hb1⟩
  have hw1 : Below w.heap.size w w1 := by (repeat' (first | (with_reducible exact Below.refl _ _) | (with_reducible assumption) | (with_reducible refine Below.alloc ?_ ?_ _) | (with_reducible refine Below.drew ?_) | (with_reducible refine below_drewN ?_ _) | (with_reducible refine Below.setCell ?_ ?_ _) | (with_reducible refine Below.trans ?_ (Below.mono (by with_reducible assumption) ?_)) | (with_reducible exact Below.size (by with_reducible assumption)) | go_size))
  obtain ⟨hc_hb1, hf_hb1⟩ := bcell hb1; obtain ⟨hcA_hb1, hfA_hb1⟩ := bcellG (W0 := w) hb1 (by (repeat' (first | (with_reducible exact Below.refl _ _) | (with_reducible assumption) | (with_reducible refine Below.alloc ?_ ?_ _) | (with_reducible refine Below.drew ?_) | (with_reducible refine below_drewN ?_ _) | (with_reducible refine Below.setCell ?_ ?_ _) | (with_reducible refine Below.trans ?_ (Below.mono (by with_reducible assumption) ?_)) | (with_reducible exact Below.size (by with_reducible assumption)) | go_size))); have hz_hb1 := hb1.size; (try simp at hz_hb1); (try simp only [Nat.add_one_le_iff] at hz_hb1); have hz0_hb1 : w.heap.size < w1.heap.size := (by omega); have hz1_hb1 : w.heap.size + 1 < w1.heap.size := (by omega)
  have HW1 := Lib.hid hw1
  clear HCK hw1
  go_wp2_with fail
  obtain ⟨W2, hW2⟩ : ∃ W2, W2 = w1.alloc (.cells (arrC fun _ => 0) 76) := ⟨_, rfl⟩
  rw [← arrC_zero, ← hW2]
  have hb2 : Below w1.heap.size w1 W2 := by rw [hW2]; exact (Below.refl _ _).alloc (Nat.le_refl _) _
  have hA0 : Arr W2 w1.heap.size (turK O S 0) := by rw [hW2, turK_zero]; exact heap_alloc_new w1 _
  have HK := Lib.hid (fun wr (h : Below w1.heap.size w1 wr) => show wr.cell? ⟨w.heap.size, 0, none⟩ = some (.int .i64 n) ∧ wr.cell? ⟨w.heap.size, 1, none⟩ = some (.slice (some ⟨b, off, none⟩) T cap) ∧ wr.cell? ⟨w.heap.size + 1, 0, none⟩ = some (.int .i64 0) ∧ wr.cell? ⟨w.heap.size + 1, 1, none⟩ = some (.slice none 0 0) ∧ (∀ o, wr.frozen? ⟨w.heap.size + 1, o, none⟩ = false) from
    ⟨(h.cell (p := ⟨w.heap.size, 0, none⟩) (by show w.heap.size < _; omega)).trans ((hc_hb1 _ _ (by simp; omega)).trans (cell_alloc3 _ _ _ _ _ _)), (h.cell (p := ⟨w.heap.size, 1, none⟩) (by show w.heap.size < _; omega)).trans ((hc_hb1 _ _ (by simp; omega)).trans (cell_alloc3 _ _ _ _ _ _)),
      (h.cell (p := ⟨w.heap.size + 1, 0, none⟩) (by show w.heap.size + 1 < _; omega)).trans ((hc_hb1 _ _ (by simp)).trans (by simp [go_sem])), (h.cell (p := ⟨w.heap.size + 1, 1, none⟩) (by show w.heap.size + 1 < _; omega)).trans ((hc_hb1 _ _ (by simp)).trans (by simp [go_sem])),
      fun o => (h.frozen (p := ⟨w.heap.size + 1, o, none⟩) (by show w.heap.size + 1 < _; omega)).trans ((hf_hb1 _ _ (by simp)).trans (by simp [go_sem]))⟩)
  have HCC := Lib.hid (fun wr (h : Below w1.heap.size w1 wr) k (hk : k < T) => show wr.cell? ⟨b, off + k, none⟩ = some (.int .i64 (O.getD k 0)) from
    (h.cell (p := ⟨b, off + k, none⟩) (by show b < _; have := HW1.out.size; omega)).trans ((HW1.out.cell (p := ⟨b, off + k, none⟩) hb).trans (HC.out k hk)))
  have HZ := Lib.hid hz_hb1
  have HA0 := Lib.hid hA0
  have HB2 := Lib.hid hb2
  have hg2 : w.heap.size + 1 < w1.heap.size := by omega
  clear hc_hb1 hf_hb1 hcA_hb1 hfA_hb1 hb1 hW2 hA0 hb2 HC hz_hb1
  obtain ⟨G, hG⟩ : ∃ G, G = w1.heap.size := ⟨_, rfl⟩
  have HGG := Lib.hid hG
  rw [← hG] at HA0 hg2 ⊢
  have x1 := (HK.out _ HB2.out).2.1
  clear hG
  go_wp2_with fail
  clear x1
  go_loopw [8, 9, 21] (fun _ _ i wr => ∃ k : Nat, k ≤ T ∧ i = .int .i64 k ∧ Arr wr G (turK O S k) ∧ Below w1.heap.size w1 wr) (fun _ _ i _ => T - (intOf i).toNat)
  case atStart => exact ⟨0, Nat.zero_le _, by go_num, HA0.out, HB2.out⟩
  case round =>
    obtain ⟨k, hk, rfl, hA, hB⟩ := hrel
    by_cases hlt : k < T
    · have t1 := HCC.out wr hB k hlt
      obtain ⟨hx1, hx2⟩ := HX.out k hlt
      have ha1 := hA.cell _ hx2
      have ha2 := hA.frozen (k ^^^ S)
      have HA1 := Lib.hid (show Arr (wr.setCell ⟨G, k ^^^ S, none⟩ (.int .i64 (O.getD k 0))) G (turK O S (k + 1)) from (hA.set _ (O.getD k 0) hx2).congr (fun j _ => turK_step O S k j))
      have HB1 := Lib.hid (show Below w1.heap.size w1 (wr.setCell ⟨G, k ^^^ S, none⟩ (.int .i64 (O.getD k 0))) from hB.setCell (by rw [HGG.out]; exact Nat.le_refl _) _)
      clear hA hB
      generalize O.getD k 0 = x at *
      generalize k ^^^ S = X at *
      have hX63 : (X : Int) ≤ 9223372036854775807 := by omega
      go_wp2_with fail
      go_roundw
      case rel => exact ⟨k + 1, by omega, by go_num, HA1.out, HB1.out⟩
      case measure => simp [intOf]; omega
    · obtain rfl : k = T := by omega
      have HA := Lib.hid hA
      have HB := Lib.hid hB
      obtain ⟨y0, y1, y2, y3, y4⟩ := HK.out wr hB
      clear hA hB hlt hk
      go_wp2_with (refine wpList_load_row rfl 76 _ rfl G rfl _ _ _ _ HA.out Try.underlying76 rfl (by rw [arrC_size]; exact info_arr) ?_)
      have hn := HN.out
      have hcu := cubeOf_any (turK O S k) n wr hn.1 hn.2 (by rw [HTT.out]; exact HI64.out)
      rw [HTT.out, HR.out] at hcu
      refine hcu.mono ?_
      rintro e w3 ⟨g, gc, rfl, hf3, hb3⟩
      obtain ⟨g', gc', hv, g1, g2, g3⟩ := hf3
      rw [show (turL O (S : Int)).length = k by simp [turL, HL.out]] at hv
      simp only [Value.slice.injEq, Option.some.injEq, Addr.mk.injEq, and_true, true_and] at hv
      obtain ⟨rfl, rfl⟩ := hv
      have hzz := HB.out.size
      obtain ⟨_, _, y2, y3, y4⟩ := HK.out w3 (HB.out.trans (hb3.mono hzz))
      have hgg : w.heap.size + 1 < g := by omega
      have HO := Lib.hid g3
      have HBW := Lib.hid (HW1.out.trans ((HB.out.trans (hb3.mono hzz)).mono HW1.out.size))
      clear hcu y0 y1 g1 g3 hb3 hzz
      go_wp2_with fail
      refine bodyPost_ret (v := .tuple #[.agg #[.int .i64 n, .slice (some ⟨g, 0, none⟩) k gc], .int .i64 0]) (by simp [*, results, Try.results49, go_sem]) rfl ?_
      have ht : Tch [w.heap.size + 1] w3 ((w3.setCell ⟨w.heap.size + 1, 0, none⟩ (.int .i64 n)).setCell ⟨w.heap.size + 1, 1, none⟩ (.slice (some ⟨g, 0, none⟩) k gc)) := ((Tch.refl _ _).setCell (by simp) _).setCell (by simp) _
      exact ⟨_, rfl, ⟨HO.out.tch ht (fun b hb c => by simp [Value.ownBlock] at hb c; omega), fun b hb => by simp [Value.ownBlock] at hb; subst hb; exact ⟨by omega, by simpa using g2⟩⟩, HBW.out.trans (ht.below (fun b hb => by simp at hb; omega))⟩
end Go.Proofs.Ytlccdnpicfmeaaa.PW
