/-
  Maps from fractions to numbers, in memory of the call's own.
-/
import Derived.Test.YtkdgnegnndedaaaFracWalkD
import Derived.Test.YtkdgnegnndedaaaPMem
import Derived.Maps.OwnOps
import Derived.Maps.Views
import Derived.DeepKeys4
import Derived.MapViews
import Derived.OpenShut
import Derived.ChangeOld
import Derived.Lib.SmallJoins
namespace Go.Proofs.Ytkdgnegnndedaaa.PW
open Go.ChangeShapes Go.WideShapes Go.ChangeAt Go.RowKit Go.Joins Go.Deep Go.Maps Go.Proofs.Ytkdgnegnndedaaa
open Go.Proofs.Ytkdgnegnndedaaa.PM

theorem fr_wide : (match Try.prog.underlying 61 with | some (.array _ _) | some (.struct _) => true | _ => false) = true := by kernel_rfl
theorem fr_keyType : Try.prog.keyTypeAt (Try.prog.types.size + 1) 61 = true := by kernel_rfl
theorem fr_laid : laidOutB Try.prog = true := by kernel_rfl
theorem fr_row : (61 : TypeId) < Try.prog.types.size := of_decide_eq_true (by kernel_rfl)
theorem fr_kt3 : Try.prog.keyTypeAt 3 61 = true := by kernel_rfl
set_option maxRecDepth 100000 in
theorem fr_keyed : Keyed Try.prog 61 := Keyed.of_law (deep_law_laid fr_laid (m := 3) (by omega) fr_row fr_kt3 fr_wide)
theorem fr_cells : Try.prog.cellsOf 61 = 2 := by kernel_rfl
/-- The key that a fraction is. -/
def frKey (a b : Int) : Lit := (DataW.agg [.lit (.int .i64 a), .lit (.int .i64 b)] : DataW Unit).asKey
set_option maxRecDepth 100000 in
theorem fr_key {a b : Int} (ha : I64 a) (hb : I64 b) : keyOf Try.prog 61 (.agg #[.int .i64 a, .int .i64 b]) = some (frKey a b) := by
  have wa : (Lit.int IntKind.i64 a).wf = true := WalkArith.wf_i64 ha
  have wb : (Lit.int IntKind.i64 b).wf = true := WalkArith.wf_i64 hb
  have hf : (Value.agg #[.int .i64 a, .int .i64 b]).formed Try.prog 61 = true := by
    simp [Value.formed, Try.underlying61, fr_cells]
  have hT : DataW.Trod (H := Unit) (fun _ => ()) Try.prog ⟨default, default, default, default, default⟩ 0 (fun _ => true) true 61 (.agg #[.int .i64 a, .int .i64 b]) (.agg [.lit (.int .i64 a), .lit (.int .i64 b)]) [] :=
    shut_agg2 (y0 := (.lit (.int .i64 a), [])) (y1 := (.lit (.int .i64 b), [])) Try.underlying61 (by kernel_rfl) fr_cells ⟨1, by simp [DataW.trod, Try.underlying2, wa]⟩ ⟨1, by simp [DataW.trod, Try.underlying2, wb]⟩
  exact (keyOf_asKey fr_keyType fr_wide hf hT).1
theorem fr_inj {a b c d : Int} (ha : I64 a) (hb : I64 b) (hc : I64 c) (hd : I64 d) (h : frKey a b = frKey c d) : a = c ∧ b = d := by
  have h1 := fr_key ha hb
  have h2 := fr_key hc hd
  rw [← h] at h2
  have := fr_keyed.inj h1 h2
  simpa using this
theorem fr_zero (w : World) : (zeroValue 2).run Try.prog w = .ok (.int .i64 0) w := by kernel_rfl

/-- Block B of w is a map of at most n entries that gives N x for each x of xs. -/
def MapN (w : World) (B n : Nat) (xs : List (Int × Int)) (N : Int × Int → Int) : Prop :=
  ∃ D : DataW Unit, w.ownsMap Try.prog 61 (plainElem Try.prog 2) B n D ∧ IsMap D ∧ ∀ x ∈ xs, D.atKey (frKey x.1 x.2) (.lit (.int .i64 0)) = .lit (.int .i64 (N x))
theorem MapN.heap {w w' : World} {B n : Nat} {xs : List (Int × Int)} {N : Int × Int → Int} (h : MapN w B n xs N) (hb : w'.heap[B]? = w.heap[B]?) : MapN w' B n xs N := by
  obtain ⟨D, ⟨es, cl, h1, h2⟩, h3⟩ := h
  exact ⟨D, ⟨es, cl, by rw [hb]; exact h1, h2⟩, h3⟩
theorem MapN.lt {w : World} {B n : Nat} {xs : List (Int × Int)} {N : Int × Int → Int} (h : MapN w B n xs N) : B < w.heap.size := by
  obtain ⟨D, h1, _⟩ := h
  exact h1.lt
theorem MapN.below {w w' : World} {B C n : Nat} {xs : List (Int × Int)} {N : Int × Int → Int} (h : MapN w B n xs N) (hb : Below C w w') (hC : B < C) : MapN w' B n xs N := h.heap (hb.block B hC)
theorem mapN_made (w : World) (N : Int × Int → Int) : MapN (w.alloc (.map #[] 0)) w.heap.size 0 [] N := ⟨.map [], World.ownsMap_made _ _ _ _, ⟨[], rfl⟩, fun _ hx => (List.not_mem_nil hx).elim⟩
theorem MapN.look {w : World} {B n : Nat} {xs : List (Int × Int)} {N : Int × Int → Int} (h : MapN w B n xs N) {x : Int × Int} (hx : x ∈ xs) (h1 : I64 x.1) (h2 : I64 x.2) :
    (Instr.lookup 153 (.map (some B)) (.agg #[.int .i64 x.1, .int .i64 x.2]) false).run Try.prog w = .ok (.int .i64 (N x)) w := by
  obtain ⟨D, ho, _, ha⟩ := h
  obtain ⟨c, hr, hc, _⟩ := ho.lookup_int fr_keyed Try.underlying153 Try.underlying2 (fr_zero w) (fr_key h1 h2)
  rw [ha x hx] at hc
  have : N x = c := by simpa using hc
  rw [hr, this]
theorem MapN.put {w : World} {B n : Nat} {xs : List (Int × Int)} {N : Int × Int → Int} (h : MapN w B n xs N) (hn : n < maxLen) {x : Int × Int} (h1 : I64 x.1) (h2 : I64 x.2) (hN : I64 (N x)) (hxs : ∀ y ∈ xs, I64 y.1 ∧ I64 y.2) :
    ∃ w', (Instr.mapUpdate 153 (.map (some B)) (.agg #[.int .i64 x.1, .int .i64 x.2]) (.int .i64 (N x))).run Try.prog w = .ok () w' ∧ MapN w' B (n + 1) (xs ++ [x]) N ∧ w.grownBy w' (some B) := by
  obtain ⟨D, ho, hD, ha⟩ := h
  obtain ⟨w', hr, ho', hg⟩ := ho.update fr_keyed Try.underlying153 hn (fr_key h1 h2) (plainElem_int Try.underlying2 (WalkArith.wf_i64 hN))
  refine ⟨w', hr, ⟨_, ho', hD.put _ _, fun y hy => ?_⟩, hg⟩
  by_cases e : frKey y.1 y.2 = frKey x.1 x.2
  · rw [e, atKey_put_same hD (fr_keyed.key (fr_key h1 h2))]
    rcases List.mem_append.1 hy with hy | hy
    · obtain ⟨e1, e2⟩ := fr_inj (hxs y hy).1 (hxs y hy).2 h1 h2 e
      rw [show y = x from Prod.ext e1 e2]
    · rw [show y = x by simpa using hy]
  · rcases List.mem_append.1 hy with hy | hy
    · rw [atKey_put_other e]
      exact ha y hy
    · exact absurd (by rw [show y = x by simpa using hy]) e
end Go.Proofs.Ytkdgnegnndedaaa.PW
