/-
  Walks: lists of fractions as arguments of the laws: sizes, copies.
-/
import Derived.Test.YtgncaploccbfnaaPFrF
import Derived.Test.YtgncaploccbfnaaVNum
namespace Go.Proofs.Ytgncaploccbfnaa.PW
open Go.RowKit Go.Proofs.Ytgncaploccbfnaa
open Go.Proofs.Ytgncaploccbfnaa.PM

theorem szFracS_any (a : Option Addr) (n cap : Nat) (left : Int) (w : World) (hm : n ≤ 9223372036854775807) (h0 : 0 ≤ left) (h1 : left ≤ 1048576) :
    Calls Try.prog 27 #[.slice a n cap, .int .i64 left] w fun e w' => e = .returned (.int .i64 (szI n left)) ∧ w = w' := by
  by_cases h : (n : Int) ≤ left
  · have e : szI n left = left - n := by unfold szI; rw [if_pos h]
    rw [e]
    clear e
    go_enter Try.func27, Try.ntmps27
    go_wp2
    go_ret
    exact ⟨rfl, rfl⟩
  · have e : szI n left = -1 := by unfold szI; rw [if_neg h]
    rw [e]
    clear e
    go_enter Try.func27, Try.ntmps27
    go_wp2
    go_ret
    exact ⟨rfl, rfl⟩
theorem toFrac_same (x y : Int) (w : World) : Calls Try.prog 84 #[.agg #[.int .i64 x, .int .i64 y]] w fun e w' => e = .returned (.agg #[.int .i64 x, .int .i64 y]) ∧ Below w.heap.size w w' := by
  go_enter Try.func84, Try.ntmps84
  go_wp2
  refine bodyPost_ret (v := .agg #[.int .i64 x, .int .i64 y]) (by simp [*, results, Try.results84, go_sem]) rfl ?_
  refine ⟨rfl, ?_⟩
  (repeat' (first | (with_reducible exact Below.refl _ _) | (with_reducible assumption) | (with_reducible refine Below.alloc ?_ ?_ _) | (with_reducible refine Below.drew ?_) | (with_reducible refine below_drewN ?_ _) | (with_reducible refine Below.setCell ?_ ?_ _) | (with_reducible refine Below.trans ?_ (Below.mono (by with_reducible assumption) ?_)) | (with_reducible exact Below.size (by with_reducible assumption)) | go_size))
theorem fcs_zero (n : Nat) : ∀ v ∈ fcs (List.replicate n (0, 0)), v = .int .i64 0 := by
  induction n with
  | zero => intro v hv; simp [fcs] at hv
  | succ n ih =>
    intro v hv
    rw [List.replicate_succ] at hv
    simp only [fcs, List.mem_cons] at hv
    rcases hv with rfl | rfl | hv
    · rfl
    · rfl
    · exact ih v hv
theorem made_frac (n : Nat) : madeCells #[.int .i64 0, .int .i64 0] (n * 2) = (fcs (List.replicate n (0, 0))).toArray := by
  apply Array.ext
  · simp [size_madeCells, fcs_length]
  · intro i h1 h2
    have e2 : (fcs (List.replicate n (0, 0))).toArray[i] = .int .i64 0 := fcs_zero n _ (by simp)
    rw [e2]
    have hm : i % 2 = 0 ∨ i % 2 = 1 := by omega
    rcases hm with hm | hm <;> simp [madeCells, hm]
theorem make_fracs (n : Nat) (hn : n ≤ 1048576) : ∀ w, (Instr.makeSlice 41 (.int .i64 n) (.int .i64 n)).run Try.prog w = .ok (.slice (some ⟨w.heap.size, 0, none⟩) n n) (w.alloc (.cells (fcs (List.replicate n (0, 0))).toArray 98)) := by
  intro w
  obtain ⟨i, hi, hzz⟩ := Option.map_eq_some_iff.1 info_frac
  simp only [Prod.mk.injEq] at hzz
  obtain ⟨hz, hs, hb⟩ := hzz
  have hr := run_make (P := Try.prog) w 41 98 i _ Try.underlying41 hi hz .i64 .i64 n n (by omega) (Int.le_refl _) (by rw [hb]; omega) (by omega)
  rw [← made_frac]
  simpa [hs, Value.cells] using hr
theorem freshF_mades (w : World) (n : Nat) (hn : n ≤ 1048576) : FreshF w.heap.size (w.alloc (.cells (fcs (List.replicate n (0, 0))).toArray 98)) (.slice (some ⟨w.heap.size, 0, none⟩) n n) (List.replicate n (0, 0)) := by
  refine ⟨w.heap.size, n, by simp, Nat.le_refl _, by simp, ?_⟩
  refine ⟨by rw [fcs_length], .inr ⟨w.heap.size, n, (fcs (List.replicate n (0, 0))).toArray, by simp, Nat.zero_le _, heap_alloc_new w _, by simp, by unfold maxLen; omega, by simp [fcs_length], ?_⟩⟩
  simp
  rw [List.take_of_length_le (by simp [fcs_length])]
/-- The first k of n fractions are written. -/
def filF (xs : List (Int × Int)) (k : Nat) : List (Int × Int) := (List.range xs.length).map fun j => if j < k then xs.getD j (0, 0) else (0, 0)
theorem filF_zero (xs : List (Int × Int)) : filF xs 0 = List.replicate xs.length (0, 0) := by
  unfold filF
  apply List.ext_getElem
  · simp
  · intro i h1 h2; simp [List.getElem_replicate]
theorem filF_all (xs : List (Int × Int)) : filF xs xs.length = xs := by
  unfold filF
  apply List.ext_getElem
  · simp
  · intro i h1 h2
    have : i < xs.length := by simpa using h1
    simp [this]
theorem filF_length (xs : List (Int × Int)) (k : Nat) : (filF xs k).length = xs.length := by simp [filF]
theorem filF_set (xs : List (Int × Int)) (k : Nat) : (filF xs k).set k ((xs.getD k (0, 0)).1, (xs.getD k (0, 0)).2) = filF xs (k + 1) := by
  unfold filF
  apply List.ext_getElem
  · simp
  · intro i h1 h2
    rw [List.getElem_set]
    simp only [List.getElem_map, List.getElem_range]
    by_cases e : k = i
    · subst e; rw [if_pos rfl, if_pos (by omega)]
    · rw [if_neg e]
      by_cases hl : i < k
      · rw [if_pos hl, if_pos (by omega)]
      · rw [if_neg hl, if_neg (by omega)]

set_option maxRecDepth 100000 in
set_option maxHeartbeats 1000000 in
theorem toFracS_out (v : Value) (xs : List (Int × Int)) (w : World) (hv : Frs w v xs) (hn : xs.length ≤ 1048576) :
    Calls Try.prog 29 #[v] w fun e w' => e = .returned (.slice (some ⟨w.heap.size, 0, none⟩) xs.length xs.length) ∧ OwnF w' (.slice (some ⟨w.heap.size, 0, none⟩) xs.length xs.length) xs ∧ Below w.heap.size w w' ∧ w.heap.size < w'.heap.size := by
  have hmk := make_fracs xs.length hn
  have hF0 := freshF_mades w xs.length hn
  rw [← filF_zero] at hmk hF0
  have HF0 := Lib.hid hF0
  have HC : Hid (∀ wr, Below w.heap.size w wr → ∀ i, i < xs.length → ∃ b off c, v = .slice (some ⟨b, off, none⟩) xs.length c ∧ wr.cell? ⟨b, off + i * 2, none⟩ = some (.int .i64 (xs.getD i (0, 0)).1) ∧ wr.cell? ⟨b, off + i * 2 + 1, none⟩ = some (.int .i64 (xs.getD i (0, 0)).2)) := fun wr hw i hi => by
    obtain ⟨b, off, c, hv', _, hc⟩ := hv.at_ (by omega)
    exact ⟨b, off, c, hv', hc wr hw i hi⟩
  obtain ⟨a, cap, rfl, _⟩ := hv
  have hA0 : Below w.heap.size w (w.alloc (.cells (fcs (filF xs 0)).toArray 98)) := (Below.refl _ _).alloc (Nat.le_refl _) _
  generalize (fcs (filF xs 0)).toArray = arr at *
  clear hF0
  obtain ⟨g, hg⟩ : ∃ g, g = w.heap.size := ⟨_, rfl⟩
  go_enter Try.func29, Try.ntmps29
  go_wp2_with fail
  rw [← hg]
  rw [← hg] at HF0
  have hgw : w.heap.size ≤ g := by omega
  have HG := Lib.hid hg
  clear hg
  go_loopw [4] (fun i wr => ∃ k : Nat, k ≤ xs.length ∧ i = .int .i64 k ∧ FreshF g wr (.slice (some ⟨g, 0, none⟩) xs.length xs.length) (filF xs k) ∧ Below w.heap.size w wr) (fun i _ => xs.length - (intOf i).toNat)
  case atStart => exact ⟨0, Nat.zero_le _, rfl, HF0.out, hA0⟩
  case round =>
    obtain ⟨k, hk, rfl, hR, hB⟩ := hrel
    by_cases hlt : k < xs.length
    · obtain ⟨b, off, c, hv', t0, t1⟩ := HC.out wr hB k hlt
      obtain ⟨rfl, _⟩ : a = some ⟨b, off, none⟩ ∧ True := by
        simp only [Value.slice.injEq] at hv'
        exact ⟨hv'.1, trivial⟩
      have HR := Lib.hid hR
      have HB := Lib.hid hB
      have hzz := hB.size
      have hzl : g < wr.heap.size := by obtain ⟨g', c', hv2, _, h2, _⟩ := hR; simp at hv2; omega
      have hFS := filF_set xs k
      generalize (xs.getD k (0, 0)).1 = x at *
      generalize (xs.getD k (0, 0)).2 = y at *
      clear hR hB hmk
      go_wp2_with fail
      refine (toFrac_same _ _ _).mono ?_
      rintro e w2 ⟨rfl, hb2⟩
      have hR2 := HR.out.below hb2
      have hl := filF_length xs k
      have c0 := hR2.own.cell0 hl.symm hlt
      have c1 := hR2.own.cell1 hl.symm hlt
      have f0 := fun i => hR2.own.frozen hl.symm i
      have hz2 := hb2.size
      have hst := hR2.set hlt x y
      rw [hFS] at hst
      have hbl := ((HB.out.trans (hb2.mono hzz)).setCell (p := ⟨g, k * 2, none⟩) (show w.heap.size ≤ g from hgw) (.int .i64 x)).setCell (p := ⟨g, k * 2 + 1, none⟩) (show w.heap.size ≤ g from hgw) (.int .i64 y)
      have HST := Lib.hid hst
      have HBL := Lib.hid hbl
      clear hst hbl hl hR2 hb2 hFS
      generalize ((filF xs k).getD k (0, 0)).1 = x1 at *
      generalize ((filF xs k).getD k (0, 0)).2 = y1 at *
      go_wp2_with fail
      go_roundw
      case rel => exact ⟨k + 1, by omega, by go_num, HST.out, HBL.out⟩
      case measure => simp [intOf]; omega
    · obtain rfl : k = xs.length := by omega
      rw [filF_all] at hR
      have HR := Lib.hid hR
      have HB := Lib.hid hB
      clear hR hB
      go_wp2_with fail
      go_ret
      obtain ⟨g', c', hv2, _, hg2, _⟩ := id HR.out
      rw [← HG.out]
      refine ⟨rfl, HR.out.own, by rw [HG.out]; exact HB.out, ?_⟩
      simp at hv2; omega
theorem OwnF.frs {w : World} {g cap n : Nat} {xs : List (Int × Int)} (h : OwnF w (.slice (some ⟨g, 0, none⟩) n cap) xs) (hI : ∀ x ∈ xs, I64 x.1 ∧ I64 x.2) : Frs w (.slice (some ⟨g, 0, none⟩) n cap) xs := by
  obtain rfl : n = xs.length := h.len
  have hlt : g < w.heap.size := by
    rcases h.cases with ⟨hv, _⟩ | ⟨g', cap', hv, h'⟩
    · simp at hv
    · simp at hv; omega
  have hc : xs.length ≤ cap ∧ cap ≤ maxLen := by
    rcases h.2 with ⟨hv, _⟩ | ⟨g', cap', cur, hv, _, _, h1, h2, h3, _⟩
    · simp at hv
    · simp at hv
      obtain ⟨rfl, rfl⟩ := hv
      omega
  exact ⟨_, _, rfl, hc.1, hc.2, hI, .inr ⟨g, 0, rfl, hlt, fun i hi => by rw [Nat.zero_add]; exact ⟨h.cell0 rfl hi, h.cell1 rfl hi⟩⟩⟩
theorem OwnF.bet {w w' : World} {g cap n lo hi : Nat} {xs : List (Int × Int)} (h : OwnF w (.slice (some ⟨g, 0, none⟩) n cap) xs) (ht : Bet lo hi w w') (hd : g < lo ∨ hi ≤ g) : OwnF w' (.slice (some ⟨g, 0, none⟩) n cap) xs := by
  have hlt : g < w.heap.size := by
    rcases h.cases with ⟨hv, _⟩ | ⟨g', cap', hv, h'⟩
    · simp at hv
    · simp at hv; omega
  exact ownF_any h (fun b hb => by simp [Value.ownBlock] at hb; subst hb; exact ht.block _ hlt (by omega))
end Go.Proofs.Ytgncaploccbfnaa.PW
