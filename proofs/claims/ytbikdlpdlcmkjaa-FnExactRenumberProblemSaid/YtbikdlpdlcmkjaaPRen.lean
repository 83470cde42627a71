/-
  A problem renumbered: the writes one after the other, and what stands of their result.
-/
import Derived.Test.YtbikdlpdlcmkjaaPWalkO
namespace Go.Proofs.Ytbikdlpdlcmkjaa.PW
open Go.RowKit Go.Proofs.Ytbikdlpdlcmkjaa
open Go.Proofs.Ytbikdlpdlcmkjaa.PM

/-- The place that a list tells. -/
def plc (L : List Int) (k : Nat) : Nat := (L.getD k 0).toNat
/-- The first c numbers of src are written where L tells. -/
def renRow (row : List Int) (L src : List Int) : Nat → List Int
  | 0 => row
  | c + 1 => (renRow row L src c).set (plc L c) (src.getD c 0)
/-- The first i rows of M are written where L tells. -/
def renM (M : List (List Int)) (L : List Int) (n : Nat) : Nat → List (List Int)
  | 0 => M
  | i + 1 => (renM M L n i).set (plc L i) (renRow ((renM M L n i).getD (plc L i) []) L (M.getD i []) n)

theorem renRow_length (row L src : List Int) (c : Nat) : (renRow row L src c).length = row.length := by
  induction c with
  | zero => rfl
  | succ c ih => simp [renRow, ih]
theorem renM_length (M : List (List Int)) (L : List Int) (n i : Nat) : (renM M L n i).length = M.length := by
  induction i with
  | zero => rfl
  | succ i ih => simp [renM, ih]
theorem set_getD_all {α : Type} {p : α → Prop} {d : α} (l : List α) (i : Nat) (x : α) (h : ∀ j, j < l.length → p (l.getD j d)) (hx : p x) : ∀ j, j < (l.set i x).length → p ((l.set i x).getD j d) := by
  intro j hj
  rw [List.length_set] at hj
  by_cases e : i = j
  · subst e
    have : (l.set i x).getD i d = x := by simp [hj]
    rw [this]; exact hx
  · have : (l.set i x).getD j d = l.getD j d := by
      simp only [List.getD_eq_getElem?_getD]
      rw [List.getElem?_set_ne e]
    rw [this]; exact h j hj
theorem renRow_all {p : Int → Prop} (row L src : List Int) (c : Nat) (h : ∀ j, j < row.length → p (row.getD j 0)) (hs : ∀ j, j < src.length → p (src.getD j 0)) (hc : c ≤ src.length) : ∀ j, j < (renRow row L src c).length → p ((renRow row L src c).getD j 0) := by
  induction c with
  | zero => exact h
  | succ c ih => exact set_getD_all _ _ _ (ih (by omega)) (hs c (by omega))
theorem renM_all (M : List (List Int)) (L : List Int) (n i : Nat) (hn : M.length = n) (hL : ∀ k, k < n → plc L k < n) (h : ∀ j, j < n → (M.getD j []).length = n ∧ ∀ c, c < n → -20 ≤ (M.getD j []).getD c 0 ∧ (M.getD j []).getD c 0 ≤ 20) (hi : i ≤ n) :
    ∀ j, j < (renM M L n i).length → ((renM M L n i).getD j []).length = n ∧ ∀ c, c < n → -20 ≤ ((renM M L n i).getD j []).getD c 0 ∧ ((renM M L n i).getD j []).getD c 0 ≤ 20 := by
  induction i with
  | zero => exact fun j hj => h j (by rw [← hn]; exact hj)
  | succ i ih =>
    have ih := ih (by omega)
    refine set_getD_all (p := fun r : List Int => r.length = n ∧ ∀ c, c < n → -20 ≤ r.getD c 0 ∧ r.getD c 0 ≤ 20) _ _ _ ih ?_
    obtain ⟨h1, h2⟩ := ih (plc L i) (by rw [renM_length]; have := hL i (by omega); omega)
    obtain ⟨h3, h4⟩ := h i (by omega)
    have hl := renRow_length ((renM M L n i).getD (plc L i) []) L (M.getD i []) n
    refine ⟨by rw [hl]; exact h1, fun c hc => ?_⟩
    exact renRow_all (p := fun x => -20 ≤ x ∧ x ≤ 20) _ L _ n (fun j hj => h2 j (by omega)) (fun j hj => h4 j (by omega)) (by omega) c (by omega)

def renOut (M : List (List Int)) (Q L : List Int) : List (List Int) × List Int × Int :=
  if isPB M Q = false then ([], [], 1)
  else if numB L M.length = false then ([], [], 2)
  else (renM M L M.length M.length, renRow Q L Q M.length, 0)

theorem numB_plc {L : List Int} {n : Nat} (h : numB L n = true) : L.length = n ∧ ∀ k, k < n → L.getD k 0 = (plc L k : Int) ∧ plc L k < n := by
  obtain ⟨h1, h2, _⟩ := (numB_iff2 L n).1 h
  refine ⟨h1, fun k hk => ?_⟩
  have hm : L.getD k 0 ∈ L := by
    have : k < L.length := by omega
    simp [this]
  have := h2 _ hm
  unfold plc
  omega
theorem isPB_ren {M : List (List Int)} {Q L : List Int} (h : isPB M Q = true) (hL : numB L M.length = true) : isPB (renM M L M.length M.length) (renRow Q L Q M.length) = true := by
  obtain ⟨f1, f2, f3, f4, f5⟩ := isPB_facts h
  obtain ⟨_, hp⟩ := numB_plc hL
  have hl := renM_length M L M.length M.length
  have ha := renM_all M L M.length M.length rfl (fun k hk => (hp k hk).2) f4 (Nat.le_refl _)
  rw [isPB_iff, matB_iff]
  refine ⟨⟨by omega, fun j hj => ⟨by rw [hl]; exact (ha j hj).1, (wit_iff 20 _).2 (fun c hc => (ha j hj).2 c (by rw [(ha j hj).1] at hc; exact hc))⟩⟩, by rw [renRow_length, hl]; exact f3, (wit_iff 100 _).2 ?_⟩
  exact renRow_all (p := fun x => -100 ≤ x ∧ x ≤ 100) _ L _ _ f5 f5 (by omega)
theorem fine_ren (M : List (List Int)) (Q L : List Int) : Fine (renOut M Q L) := by
  unfold renOut
  split
  · exact fine_nil _
  · split
    · exact fine_nil _
    · rename_i h1 h2
      exact fine_of_isPB _ (isPB_ren (by simpa using h1) (by simpa using h2))
end Go.Proofs.Ytbikdlpdlcmkjaa.PW
