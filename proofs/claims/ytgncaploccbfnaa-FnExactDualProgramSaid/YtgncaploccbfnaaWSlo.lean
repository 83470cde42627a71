/-
  Walks: sums of products, multiples of lists, the numbers of slopes: in the program.
-/
import Derived.Test.YtgncaploccbfnaaWSml
namespace Go.Proofs.Ytgncaploccbfnaa.PW
open Go.RowKit Go.Proofs.Ytgncaploccbfnaa
open Go.Proofs.Ytgncaploccbfnaa.PM Go.Proofs.Ytgncaploccbfnaa.PX

/-- The sum of the first k products. -/
def proTo (a b : List Int) : Nat → Int
  | 0 => 0
  | k + 1 => proTo a b k + a.getD k 0 * b.getD k 0
theorem proTo_bd {a b : List Int} {n : Nat} {P : Int} (h : ∀ k, k < n → -P ≤ a.getD k 0 * b.getD k 0 ∧ a.getD k 0 * b.getD k 0 ≤ P) : ∀ k, k ≤ n → -(P * k) ≤ proTo a b k ∧ proTo a b k ≤ P * k := by
  intro k
  induction k with
  | zero => intro _; simp [proTo]
  | succ k ih =>
    intro hk
    have h1 := ih (by omega)
    have h2 := h k (by omega)
    simp only [proTo]
    rw [show P * ((k + 1 : Nat) : Int) = P * k + P by rw [Int.natCast_add]; simp [Int.mul_add]]
    omega
/-- The first k of n are as F says, the others as G says. -/
def filG (n k : Nat) (F G : Nat → Int) : List Int := (List.range n).map fun j => if j < k then F j else G j
theorem filG_zero (n : Nat) (F G : Nat → Int) : filG n 0 F G = (List.range n).map G := by simp [filG]
theorem filG_all (n : Nat) (F G : Nat → Int) : filG n n F G = (List.range n).map F := by
  apply List.map_congr_left
  intro j hj
  rw [if_pos (by simpa using hj)]
theorem filG_length (n k : Nat) (F G : Nat → Int) : (filG n k F G).length = n := by simp [filG]
theorem filG_at (n k : Nat) (F G : Nat → Int) (h : k < n) : (filG n k F G).getD k 0 = G k := by simp [filG, h]
theorem filG_set (n k : Nat) (F G : Nat → Int) : (filG n k F G).set k (F k) = filG n (k + 1) F G := by
  apply List.ext_getElem (by simp [filG])
  intro j h1 h2
  simp only [filG, List.getElem_set, List.getElem_map, List.getElem_range]
  by_cases e : k = j
  · subst e; simp
  · rw [if_neg e]
    by_cases h : j < k
    · rw [if_pos h, if_pos (by omega)]
    · rw [if_neg h, if_neg (by omega)]

set_option maxHeartbeats 1000000 in
theorem multiplesOf_any (v : Value) (xs : List Int) (k : Int) (w : World) (hv : Ints w v xs) (hn1 : 1 ≤ xs.length) (hn : xs.length ≤ 1000) (hb : ∀ i, i < xs.length → -1000000000000000 ≤ k * xs.getD i 0 ∧ k * xs.getD i 0 ≤ 1000000000000000) :
    Calls Try.prog 100 #[v, .int .i64 k] w fun e w' => ∃ g, e = .returned (.slice (some ⟨g, 0, none⟩) xs.length xs.length) ∧ FreshI w.heap.size w' (.slice (some ⟨g, 0, none⟩) xs.length xs.length) ((List.range xs.length).map fun i => k * xs.getD i 0) ∧ Below w.heap.size w w' := by
  have hmk := run_make_row' (P := Try.prog) 23 2 (.int .i64 0) 8 Try.underlying23 info_int rfl .i64 .i64 xs.length (by omega) (by omega)
  obtain ⟨b, off, c, rfl, hlt, hcell⟩ := list_at hv hn1
  have HC := Lib.hid hcell
  have HZ := Lib.hid (zeros_fresh w xs.length (by unfold maxLen; omega))
  have hA0 : Below w.heap.size w (w.alloc (.cells (madeCells #[.int .i64 0] xs.length) 2)) := (Below.refl _ _).alloc (Nat.le_refl _) _
  obtain ⟨F, hF⟩ : ∃ F : Nat → Int, F = fun i => k * xs.getD i 0 := ⟨_, rfl⟩
  have hFk : ∀ i, k * xs.getD i 0 = F i := fun i => by rw [hF]
  have HFK := Lib.hid hFk
  have HBD := Lib.hid hb
  rw [show (fun i => k * xs.getD i 0) = F from hF.symm]
  clear hv hcell hF hb hFk hlt
  obtain ⟨g, hg⟩ : ∃ g, g = w.heap.size := ⟨_, rfl⟩
  go_enter Try.func100, Try.ntmps100
  go_wp2_with fail
  rw [← hg]
  rw [← hg] at HZ
  have hgw : w.heap.size ≤ g := by omega
  clear hg
  go_loopw [6, 7, 13] (fun _ _ i wr => ∃ m : Nat, m ≤ xs.length ∧ i = .int .i64 m ∧ FreshI g wr (.slice (some ⟨g, 0, none⟩) xs.length xs.length) (filN xs.length m F) ∧ Below w.heap.size w wr) (fun _ _ i _ => xs.length - (intOf i).toNat)
  case atStart => exact ⟨0, Nat.zero_le _, rfl, by rw [filN_zero]; exact HZ.out, hA0⟩
  case round =>
    obtain ⟨m, hm, rfl, hO, hB⟩ := hrel
    clear hmk
    by_cases hlt : m < xs.length
    · have c1 := HC.out wr hB m hlt
      have hbd := HBD.out m hlt
      have hfk := HFK.out m
      obtain ⟨_, _, hvv, _, hz4, hoo⟩ := id hO
      have hgz : g < wr.heap.size := by simp at hvv; omega
      clear hvv hz4
      have hll : xs.length = (filN xs.length m F).length := by simp [filN]
      have c6 := own_cellN hoo hll hlt
      have c7 := own_frozenN hoo hll m
      have hst := hO.setN m (F m)
      have hbl := hB.setCell (p := ⟨g, m, none⟩) (by show _ ≤ g; omega) (.int .i64 (F m))
      rw [filN_set] at hst
      rw [← hfk] at hst hbl
      have HST := Lib.hid hst
      have HBL := Lib.hid hbl
      clear hst hbl hll hoo hO hB hfk hgz
      generalize (filN xs.length m F).getD m 0 = y at *
      generalize xs.getD m 0 = x at *
      go_wp2_with fail
      go_roundw
      case rel => exact ⟨m + 1, by omega, by go_num, HST.out, HBL.out⟩
      case measure => simp [intOf]; omega
    · obtain rfl : m = xs.length := by omega
      rw [filN_all] at hO
      have HO := Lib.hid (hO.mono (show w.heap.size ≤ g by omega))
      have HB := Lib.hid hB
      clear hO hB
      go_wp2_with fail
      go_ret
      exact ⟨g, rfl, HO.out, HB.out⟩

theorem remTo_pro (M : List (List Int)) (Q L : List Int) (d : Int) (i : Nat) : ∀ t, remTo M Q L d i t = d * Q.getD i 0 + proTo (M.getD i []) L t := by
  intro t
  induction t with
  | zero => simp [remTo, proTo, Int.mul_comm]
  | succ t ih => simp only [remTo, proTo]; rw [ih, show ent M i t = (M.getD i []).getD t 0 from rfl]; omega
end Go.Proofs.Ytgncaploccbfnaa.PW
