/-
  Lists of fractions as they lie in memory, and common denominators: plain mathematics.
-/
import Derived.Test.YtkdgnegnndedaaaFracWalkD
import Derived.Test.YtkdgnegnndedaaaPMem
namespace Go.Proofs.Ytkdgnegnndedaaa.PW
open Go.RowKit Go.Proofs.Ytkdgnegnndedaaa
open Go.Proofs.Ytkdgnegnndedaaa.PM

/-- v is a slice of the fractions xs. -/
def Frs (w : World) (v : Value) (xs : List (Int × Int)) : Prop :=
  ∃ (a : Option Addr) (cap : Nat), v = .slice a xs.length cap ∧ xs.length ≤ cap ∧ cap ≤ maxLen ∧ (∀ x ∈ xs, I64 x.1 ∧ I64 x.2) ∧
    (xs = [] ∨ ∃ b off, a = some ⟨b, off, none⟩ ∧ b < w.heap.size ∧ ∀ i, i < xs.length → w.cell? ⟨b, off + i * 2, none⟩ = some (.int .i64 (xs.getD i (0, 0)).1) ∧ w.cell? ⟨b, off + i * 2 + 1, none⟩ = some (.int .i64 (xs.getD i (0, 0)).2))
theorem Frs.below {w w' : World} {v : Value} {xs : List (Int × Int)} (h : Frs w v xs) (hb : Below w.heap.size w w') : Frs w' v xs := by
  obtain ⟨a, cap, h1, h2, h3, h4, h5⟩ := h
  refine ⟨a, cap, h1, h2, h3, h4, ?_⟩
  rcases h5 with h5 | ⟨b, off, e, hlt, hc⟩
  · exact .inl h5
  · exact .inr ⟨b, off, e, Nat.lt_of_lt_of_le hlt hb.size, fun i hi => ⟨(hb.cell (p := ⟨b, off + i * 2, none⟩) hlt).trans (hc i hi).1, (hb.cell (p := ⟨b, off + i * 2 + 1, none⟩) hlt).trans (hc i hi).2⟩⟩
theorem Frs.at_ {w : World} {v : Value} {xs : List (Int × Int)} (h : Frs w v xs) (hn : 1 ≤ xs.length) : ∃ b off c, v = .slice (some ⟨b, off, none⟩) xs.length c ∧ b < w.heap.size ∧
    ∀ wr, Below w.heap.size w wr → ∀ i, i < xs.length → wr.cell? ⟨b, off + i * 2, none⟩ = some (.int .i64 (xs.getD i (0, 0)).1) ∧ wr.cell? ⟨b, off + i * 2 + 1, none⟩ = some (.int .i64 (xs.getD i (0, 0)).2) := by
  obtain ⟨a, c, rfl, h1, h2, _, hx⟩ := h
  rcases hx with hx | ⟨b, off, rfl, hb, hc⟩
  · rw [hx] at hn; simp at hn
  · exact ⟨b, off, c, rfl, hb, fun wr hw i hi => ⟨(hw.cell (p := ⟨b, off + i * 2, none⟩) hb).trans (hc i hi).1, (hw.cell (p := ⟨b, off + i * 2 + 1, none⟩) hb).trans (hc i hi).2⟩⟩
theorem Frs.i64 {w : World} {v : Value} {xs : List (Int × Int)} (h : Frs w v xs) : ∀ x ∈ xs, I64 x.1 ∧ I64 x.2 := by
  obtain ⟨_, _, _, _, _, h4, _⟩ := h
  exact h4
theorem getD_mem2 {xs : List (Int × Int)} {i : Nat} (h : i < xs.length) : xs.getD i (0, 0) ∈ xs := by
  have e : xs.getD i (0, 0) = xs[i] := by simp [h]
  rw [e]; exact List.getElem_mem h

/-- The least common denominator, as long as it stays within the limit. -/
def comD : Int → List (Int × Int) → Option Int
  | d, [] => some d
  | d, x :: r => if 1000000000 < d.tdiv (FM.gcdI d x.2) * x.2 then none else comD (d.tdiv (FM.gcdI d x.2) * x.2) r
/-- The numerator of a fraction that is written with a denominator. -/
def numI (d : Int) (x : Int × Int) : Int := x.1 * d.tdiv x.2
def numsOk (d : Int) (xs : List (Int × Int)) : Bool := xs.all fun x => decide (-1000000000000 ≤ numI d x ∧ numI d x ≤ 1000000000000)
def comOut (xs : List (Int × Int)) : Option Int := match comD 1 xs with
  | none => none
  | some d => if numsOk d xs = true then some d else none
def fracs (xs : List (Int × Int)) : Prop := ∀ x ∈ xs, FM.isF x.1 x.2 = true
theorem comD_drop {xs : List (Int × Int)} {k : Nat} (h : k < xs.length) (d : Int) : comD d (xs.drop k) = if 1000000000 < d.tdiv (FM.gcdI d (xs.getD k (0, 0)).2) * (xs.getD k (0, 0)).2 then none else comD (d.tdiv (FM.gcdI d (xs.getD k (0, 0)).2) * (xs.getD k (0, 0)).2) (xs.drop (k + 1)) := by
  have e : xs.drop k = xs[k] :: xs.drop (k + 1) := List.drop_eq_getElem_cons h
  have e2 : xs.getD k (0, 0) = xs[k] := by simp [h]
  rw [e, e2]
  rfl
theorem com_step {d y : Int} (hd : 1 ≤ d ∧ d ≤ 1000000000) (hy : 1 ≤ y ∧ y ≤ 1000000000) : 0 < FM.gcdI d y ∧ FM.gcdI d y ≤ 1000000000 ∧ (1 ≤ d.tdiv (FM.gcdI d y) ∧ d.tdiv (FM.gcdI d y) ≤ 1000000000) ∧ 1 ≤ d.tdiv (FM.gcdI d y) * y ∧ d.tdiv (FM.gcdI d y) * y ≤ 1000000000000000000 := by
  have h1 := FM.gcdI_pos d y (by omega)
  have h2 := FM.gcdI_le d y (by omega)
  have h3 := FM.gcdI_dvd_left d y
  obtain ⟨q, hq⟩ := h3
  have h4 : d.tdiv (FM.gcdI d y) = q := by
    have h := Int.mul_tdiv_cancel_left q (show FM.gcdI d y ≠ 0 by omega)
    rwa [← hq] at h
  rw [h4]
  have hq1 : 1 ≤ q := by
    rcases Int.lt_or_le q 1 with h | h
    · have : FM.gcdI d y * q ≤ 0 := Int.mul_nonpos_of_nonneg_of_nonpos (by omega) (by omega)
      omega
    · exact h
  have hq2 : q ≤ d := by
    have : 1 * q ≤ FM.gcdI d y * q := Int.mul_le_mul_of_nonneg_right (by omega) (by omega)
    omega
  have h5 : 1 * 1 ≤ q * y := Int.mul_le_mul hq1 hy.1 (by omega) (by omega)
  have h6 : q * y ≤ 1000000000 * 1000000000 := Int.mul_le_mul (by omega) hy.2 (by omega) (by omega)
  exact ⟨h1, by omega, ⟨hq1, by omega⟩, by omega, by omega⟩
theorem comD_bd : ∀ (xs : List (Int × Int)) (d e : Int), (1 ≤ d ∧ d ≤ 1000000000) → fracs xs → comD d xs = some e → 1 ≤ e ∧ e ≤ 1000000000
  | [], d, e, hd, _, h => by
    obtain rfl : d = e := by simpa [comD] using h
    exact hd
  | x :: r, d, e, hd, hf, h => by
    unfold comD at h
    split at h
    · cases h
    · rename_i hn
      have hx := FM.isF_yes (hf x (by simp))
      have := com_step hd (y := x.2) ⟨hx.2.2.1, hx.2.2.2.1⟩
      exact comD_bd r _ e ⟨this.2.2.2.1, by omega⟩ (fun y hy => hf y (by simp [hy])) h
theorem numI_bd {d : Int} {x : Int × Int} (hd : 1 ≤ d ∧ d ≤ 1000000000) (hx : FM.isF x.1 x.2 = true) : (0 ≤ d.tdiv x.2 ∧ d.tdiv x.2 ≤ 1000000000) ∧ -1000000000000000000 ≤ numI d x ∧ numI d x ≤ 1000000000000000000 := by
  obtain ⟨h1, h2, h3, h4, _⟩ := FM.isF_yes hx
  have hq : d.tdiv x.2 = d / x.2 := Int.tdiv_eq_ediv_of_nonneg (by omega)
  have hq0 : 0 ≤ d / x.2 := Int.ediv_nonneg (by omega) (by omega)
  have hq1 : d / x.2 ≤ d := Int.ediv_le_self _ (by omega)
  have := FM.mul_bd h1 h2 (show -1000000000 ≤ d.tdiv x.2 by omega) (show d.tdiv x.2 ≤ 1000000000 by omega)
  unfold numI
  omega
theorem numsOk_iff (d : Int) (xs : List (Int × Int)) : numsOk d xs = true ↔ ∀ i, i < xs.length → -1000000000000 ≤ numI d (xs.getD i (0, 0)) ∧ numI d (xs.getD i (0, 0)) ≤ 1000000000000 := by
  unfold numsOk
  rw [List.all_eq_true]
  constructor
  · intro h i hi
    exact of_decide_eq_true (h _ (getD_mem2 hi))
  · intro h x hx
    obtain ⟨j, hj, rfl⟩ := List.mem_iff_getElem.1 hx
    have := h j hj
    rw [show xs.getD j (0, 0) = xs[j] by simp [hj]] at this
    exact decide_eq_true this
end Go.Proofs.Ytkdgnegnndedaaa.PW
