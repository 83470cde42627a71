/-
  Walks: an orientation mirrored by a set of directions, in the program.
-/
import Derived.Test.YtlccdnpicfmeaaaCOmw
import Derived.Deep.WholeRow
namespace Go.Proofs.Ytlccdnpicfmeaaa.PW
open Go.RowKit Go.Proofs.Ytlccdnpicfmeaaa
open Go.Proofs.Ytlccdnpicfmeaaa.PM

def mirL (O : List Int) (d : Int) : List Int := (List.range O.length).map fun j => bits BinOp.xor IntKind.i64 (O.getD j 0) d
def mirOut (D : Int) (O : List Int) (d : Int) : (Int × List Int) × Int := if cdOut D O [d] = 0 then ((D, mirL O d), 0) else ((0, []), cdOut D O [d])
theorem mirOut_ok {D : Int} {O : List Int} {s : Int} (h : cdOut D O [s] = 0) : mirOut D O s = ((D, mirL O s), 0) := by unfold mirOut; rw [if_pos h]
theorem mirOut_no {D : Int} {O : List Int} {s : Int} (h : cdOut D O [s] ≠ 0) : mirOut D O s = ((0, []), cdOut D O [s]) := by unfold mirOut; rw [if_neg h]
theorem fine_mir (D : Int) (O : List Int) (s : Int) : FineC (mirOut D O s).1 := by
  by_cases h : cdOut D O [s] = 0
  · rw [mirOut_ok h]
    obtain ⟨n, rfl, hc, hn1, hn5, hl, _, h0, h1, h2⟩ := ones_cb h
    clear h
    have := pow_le_32 hn5
    refine ⟨fun x hx => ?_, by show (mirL O s).length ≤ _; simp [mirL]; omega⟩
    obtain ⟨j, hj, rfl⟩ := List.mem_map.1 hx
    exact ⟨bits_lo_i64 _ _ _, bits_hi_i64 _ _ _⟩
  · rw [mirOut_no h]
    exact ⟨fineI_nil⟩
/-- The array while it is mirrored: the first k vertices have been. -/
def mirK (F : Nat → Int) (d : Int) (k j : Nat) : Int := if j < k then bits BinOp.xor IntKind.i64 (F j) d else F j
theorem mirK_zero (F : Nat → Int) (d : Int) : mirK F d 0 = F := by funext j; simp [mirK]
theorem mirK_at (F : Nat → Int) (d : Int) (k : Nat) : mirK F d k k = F k := by simp [mirK]
theorem mirK_step (F : Nat → Int) (d : Int) (k j : Nat) : (if j = k then bits BinOp.xor IntKind.i64 (F k) d else mirK F d k j) = mirK F d (k + 1) j := by
  unfold mirK
  by_cases h : j = k
  · subst h; rw [if_pos rfl, if_pos (by omega)]
  · rw [if_neg h]
    by_cases h3 : j < k
    · rw [if_pos h3, if_pos (by omega)]
    · rw [if_neg h3, if_neg (by omega)]

set_option maxRecDepth 100000 in
set_option maxHeartbeats 4000000 in
theorem implMirrorCube_any (D : Int) (q : Value) (O : List Int) (s : Int) (w : World) (hq : Ints w q O) :
    Calls Try.prog 47 #[.agg #[.int .i64 D, q], .int .i64 s] w (OutC w (mirOut D O s)) := by
  have HCK := Lib.hid (fun w' v (h : Below w.heap.size w w') (hv : Cel w' v [s]) => checkCube_any D q v O [s] w' (hq.below h) hv (by simp))
  by_cases hcd : cdOut D O [s] = 0
  case neg =>
    rw [mirOut_no hcd]
    generalize cdOut D O [s] = A at *
    obtain ⟨a, cap, rfl, _⟩ := hq
    have hab : (A != 0) = true := by simpa using hcd
    clear hcd
    go_enter Try.func47, Try.ntmps47
    go_wp2_with fail
    refine (HCK.out _ _ (by (repeat' (first | (with_reducible exact Below.refl _ _) | (with_reducible assumption) | (with_reducible refine Below.alloc ?_ ?_ _) | (with_reducible refine Below.drew ?_) | (with_reducible refine below_drewN ?_ _) | (with_reducible refine Below.setCell ?_ ?_ _) | (with_reducible refine Below.trans ?_ (Below.mono (by with_reducible assumption) ?_)) | (with_reducible exact Below.size (by with_reducible assumption)) | go_size))) (cel_one _ _ _ _ (by simp))).mono ?_
    rintro e w1 ⟨rfl, hb1⟩
    have hw1 : Below w.heap.size w w1 := by (repeat' (first | (with_reducible exact Below.refl _ _) | (with_reducible assumption) | (with_reducible refine Below.alloc ?_ ?_ _) | (with_reducible refine Below.drew ?_) | (with_reducible refine below_drewN ?_ _) | (with_reducible refine Below.setCell ?_ ?_ _) | (with_reducible refine Below.trans ?_ (Below.mono (by with_reducible assumption) ?_)) | (with_reducible exact Below.size (by with_reducible assumption)) | go_size))
    obtain ⟨hc_hb1, hf_hb1⟩ := bcell hb1; obtain ⟨hcA_hb1, hfA_hb1⟩ := bcellG (W0 := w) hb1 (by (repeat' (first | (with_reducible exact Below.refl _ _) | (with_reducible assumption) | (with_reducible refine Below.alloc ?_ ?_ _) | (with_reducible refine Below.drew ?_) | (with_reducible refine below_drewN ?_ _) | (with_reducible refine Below.setCell ?_ ?_ _) | (with_reducible refine Below.trans ?_ (Below.mono (by with_reducible assumption) ?_)) | (with_reducible exact Below.size (by with_reducible assumption)) | go_size))); have hz_hb1 := hb1.size; (try simp at hz_hb1); (try simp only [Nat.add_one_le_iff] at hz_hb1); have hz0_hb1 : w.heap.size < w1.heap.size := (by omega); have hz1_hb1 : w.heap.size + 1 < w1.heap.size := (by omega)
    clear HCK
    go_wp2_with fail
    refine bodyPost_ret (v := .tuple #[.agg #[.int .i64 0, .slice none 0 0], .int .i64 A]) (by simp [*, results, Try.results47, go_sem]) rfl ?_
    exact outC_err ((hw1.setCell (by simp) _).setCell (by simp) _)
  obtain ⟨n, rfl, hc, hn1, hn5, hl, hl2, hs0, hs1, hs2⟩ := ones_cb hcd
  rw [mirOut_ok hcd]
  rw [hcd] at HCK
  clear hcd
  have hT := pow_le_32 hn5
  obtain ⟨b, off, cap, rfl, hb, hcell⟩ := Ints.at_ hq (by omega)
  have HOM := Lib.hid (fun w' (h : Below w.heap.size w w') => outmapOf_any n b off O.length cap O w' ⟨rfl, by omega, by omega, by have := h.size; omega, fun k hk => (h.cell (p := ⟨b, off + k, none⟩) hb).trans (hcell k hk)⟩)
  obtain ⟨F, hF⟩ : ∃ F : Nat → Int, F = fun j => O.getD j 0 := ⟨_, rfl⟩
  rw [← hF] at HOM
  have HR : Hid ((List.range (2 ^ n)).map (mirK F s 32) = mirL O s) := by
    show _ = _
    unfold mirL
    rw [hl]
    refine List.map_congr_left (fun j hj => ?_)
    have : j < 2 ^ n := by simpa using hj
    unfold mirK
    rw [if_pos (by omega), hF]
  have HI64 := Lib.hid (show ∀ j, j < 2 ^ n → I64 (mirK F s 32 j) from fun j hj => by
    unfold mirK
    rw [if_pos (by omega)]
    exact ⟨bits_lo_i64 _ _ _, bits_hi_i64 _ _ _⟩)
  have HL := Lib.hid hl
  have HN := Lib.hid (And.intro hn1 hn5)
  rw [hl] at HCK HOM ⊢
  generalize hTT : 2 ^ n = T at *
  have HTT := Lib.hid hTT
  clear hs0 hs1 hs2 hl hl2 hc hq hcell hTT hn1 hn5 hF
  go_enter Try.func47, Try.ntmps47
  go_wp2_with fail
  refine (HCK.out _ _ (by (repeat' (first | (with_reducible exact Below.refl _ _) | (with_reducible assumption) | (with_reducible refine Below.alloc ?_ ?_ _) | (with_reducible refine Below.drew ?_) | (with_reducible refine below_drewN ?_ _) | (with_reducible refine Below.setCell ?_ ?_ _) | (with_reducible refine Below.trans ?_ (Below.mono (by with_reducible assumption) ?_)) | (with_reducible exact Below.size (by with_reducible assumption)) | go_size))) (cel_one _ _ _ _ (by simp))).mono ?_
  rintro e w1 ⟨rfl, hb1⟩
  have hw1 : Below w.heap.size w w1 := by (repeat' (first | (with_reducible exact Below.refl _ _) | (with_reducible assumption) | (with_reducible refine Below.alloc ?_ ?_ _) | (with_reducible refine Below.drew ?_) | (with_reducible refine below_drewN ?_ _) | (with_reducible refine Below.setCell ?_ ?_ _) | (with_reducible refine Below.trans ?_ (Below.mono (by with_reducible assumption) ?_)) | (with_reducible exact Below.size (by with_reducible assumption)) | go_size))
  obtain ⟨hc_hb1, hf_hb1⟩ := bcell hb1; obtain ⟨hcA_hb1, hfA_hb1⟩ := bcellG (W0 := w) hb1 (by (repeat' (first | (with_reducible exact Below.refl _ _) | (with_reducible assumption) | (with_reducible refine Below.alloc ?_ ?_ _) | (with_reducible refine Below.drew ?_) | (with_reducible refine below_drewN ?_ _) | (with_reducible refine Below.setCell ?_ ?_ _) | (with_reducible refine Below.trans ?_ (Below.mono (by with_reducible assumption) ?_)) | (with_reducible exact Below.size (by with_reducible assumption)) | go_size))); have hz_hb1 := hb1.size; (try simp at hz_hb1); (try simp only [Nat.add_one_le_iff] at hz_hb1); have hz0_hb1 : w.heap.size < w1.heap.size := (by omega); have hz1_hb1 : w.heap.size + 1 < w1.heap.size := (by omega)
  have HW1 := Lib.hid hw1
  clear HCK hw1
  go_wp2_with fail
  refine (HOM.out _ HW1.out).mono ?_
  rintro e w2 ⟨rfl, hb2'⟩
  have HB2' := Lib.hid hb2'
  clear hb2'
  go_wp2_with (refine wpList_store_row rfl 76 _ _ rfl w2.heap.size (arrC F) rfl rfl _ _ (heap_alloc_new w2 _) (by rw [arrC_size]; exact info_arr) (by rw [arrC_size]; rfl) (by simp [arrC, Value.oneCell']) ?_)
  rw [World.setRow_alloc_new]
  obtain ⟨W2, hW2⟩ : ∃ W2, W2 = w2.alloc (.cells (arrC F) 76) := ⟨_, rfl⟩
  rw [← hW2]
  have hb2 : Below w1.heap.size w1 W2 := by rw [hW2]; exact HB2'.out.alloc HB2'.out.size _
  have hA0 : Arr W2 w2.heap.size (mirK F s 0) := by rw [hW2, mirK_zero]; exact heap_alloc_new w2 _
  have HK := Lib.hid (fun wr (h : Below w1.heap.size w1 wr) => show wr.cell? ⟨w.heap.size, 0, none⟩ = some (.int .i64 n) ∧ wr.cell? ⟨w.heap.size, 1, none⟩ = some (.slice (some ⟨b, off, none⟩) T cap) ∧ wr.cell? ⟨w.heap.size + 1, 0, none⟩ = some (.int .i64 0) ∧ wr.cell? ⟨w.heap.size + 1, 1, none⟩ = some (.slice none 0 0) ∧ (∀ o, wr.frozen? ⟨w.heap.size + 1, o, none⟩ = false) from
    ⟨(h.cell (p := ⟨w.heap.size, 0, none⟩) (by show w.heap.size < _; omega)).trans ((hc_hb1 _ _ (by simp; omega)).trans (cell_alloc3 _ _ _ _ _ _)), (h.cell (p := ⟨w.heap.size, 1, none⟩) (by show w.heap.size < _; omega)).trans ((hc_hb1 _ _ (by simp; omega)).trans (cell_alloc3 _ _ _ _ _ _)),
      (h.cell (p := ⟨w.heap.size + 1, 0, none⟩) (by show w.heap.size + 1 < _; omega)).trans ((hc_hb1 _ _ (by simp)).trans (by simp [go_sem])), (h.cell (p := ⟨w.heap.size + 1, 1, none⟩) (by show w.heap.size + 1 < _; omega)).trans ((hc_hb1 _ _ (by simp)).trans (by simp [go_sem])),
      fun o => (h.frozen (p := ⟨w.heap.size + 1, o, none⟩) (by show w.heap.size + 1 < _; omega)).trans ((hf_hb1 _ _ (by simp)).trans (by simp [go_sem]))⟩)
  have HZ := Lib.hid hz_hb1
  have HA0 := Lib.hid hA0
  have HB2 := Lib.hid hb2
  have hzz2 := HB2'.out.size
  have hg2 : w.heap.size + 1 < w2.heap.size := by omega
  clear hc_hb1 hf_hb1 hcA_hb1 hfA_hb1 hb1 hW2 hA0 hb2 hz_hb1
  obtain ⟨G, hG⟩ : ∃ G, G = w2.heap.size := ⟨_, rfl⟩
  rw [← hG] at HA0 hg2 hzz2 ⊢
  clear hG
  go_loopw [8, 19] (fun _ i wr => ∃ k : Nat, k ≤ 32 ∧ i = .int .i64 k ∧ Arr wr G (mirK F s k) ∧ Below w1.heap.size w1 wr) (fun _ i _ => 32 - (intOf i).toNat)
  case atStart => exact ⟨0, Nat.zero_le _, by go_num, HA0.out, HB2.out⟩
  case round =>
    obtain ⟨k, hk, rfl, hA, hB⟩ := hrel
    by_cases hlt : k < 32
    · have ha1 := hA.cell k hlt
      rw [mirK_at] at ha1
      have ha2 := hA.frozen k
      have HA1 := Lib.hid (show Arr (wr.setCell ⟨G, k, none⟩ (.int .i64 (bits BinOp.xor IntKind.i64 (F k) s))) G (mirK F s (k + 1)) from (hA.set _ _ hlt).congr (fun j _ => mirK_step F s k j))
      have HB1 := Lib.hid (show Below w1.heap.size w1 (wr.setCell ⟨G, k, none⟩ (.int .i64 (bits BinOp.xor IntKind.i64 (F k) s))) from hB.setCell (by show w1.heap.size ≤ G; omega) _)
      clear hA hB
      generalize F k = x at *
      go_wp2_with fail
      go_roundw
      case rel => exact ⟨k + 1, by omega, by go_num, HA1.out, HB1.out⟩
      case measure => simp [intOf]; omega
    · obtain rfl : k = 32 := by omega
      have HA := Lib.hid hA
      have HB := Lib.hid hB
      obtain ⟨y0, y1, y2, y3, y4⟩ := HK.out wr hB
      clear hA hB hlt hk
      go_wp2_with (refine wpList_load_row rfl 76 _ rfl G rfl _ _ _ _ HA.out Try.underlying76 rfl (by rw [arrC_size]; exact info_arr) ?_)
      have hn := HN.out
      have hcu := cubeOf_any (mirK F s 32) n wr hn.1 hn.2 (by rw [HTT.out]; exact HI64.out)
      rw [HTT.out, HR.out] at hcu
      refine hcu.mono ?_
      rintro e w3 ⟨g, gc, rfl, hf3, hb3⟩
      obtain ⟨g', gc', hv, g1, g2, g3⟩ := hf3
      rw [show (mirL O s).length = T by simp [mirL, HL.out]] at hv
      simp only [Value.slice.injEq, Option.some.injEq, Addr.mk.injEq, and_true, true_and] at hv
      obtain ⟨rfl, rfl⟩ := hv
      have hzz := HB.out.size
      obtain ⟨_, _, y2, y3, y4⟩ := HK.out w3 (HB.out.trans (hb3.mono hzz))
      have hgg : w.heap.size + 1 < g := by omega
      have HO := Lib.hid g3
      have HBW := Lib.hid (HW1.out.trans ((HB.out.trans (hb3.mono hzz)).mono HW1.out.size))
      clear hcu y0 y1 g1 g3 hb3 hzz
      go_wp2_with fail
      refine bodyPost_ret (v := .tuple #[.agg #[.int .i64 n, .slice (some ⟨g, 0, none⟩) T gc], .int .i64 0]) (by simp [*, results, Try.results47, go_sem]) rfl ?_
      have ht : Tch [w.heap.size + 1] w3 ((w3.setCell ⟨w.heap.size + 1, 0, none⟩ (.int .i64 n)).setCell ⟨w.heap.size + 1, 1, none⟩ (.slice (some ⟨g, 0, none⟩) T gc)) := ((Tch.refl _ _).setCell (by simp) _).setCell (by simp) _
      exact ⟨_, rfl, ⟨HO.out.tch ht (fun b hb c => by simp [Value.ownBlock] at hb c; omega), fun b hb => by simp [Value.ownBlock] at hb; subst hb; exact ⟨by omega, by simpa using g2⟩⟩, HBW.out.trans (ht.below (fun b hb => by simp at hb; omega))⟩
end Go.Proofs.Ytlccdnpicfmeaaa.PW
