/-
  The exact law of FormAt: both sides' answers, and the law.
-/
import Derived.Test.YtbfpneonmefndaaQMat
import Derived.Deep.QuietTactic
import Derived.BigQuiet
namespace Go.Proofs.Ytbfpneonmefndaa.PW
open Go.RowKit Go.Proofs.Ytbfpneonmefndaa
open Go.Proofs.Ytbfpneonmefndaa.PM Go.Proofs.Ytbfpneonmefndaa.PX

/-- The first k terms of the row i; the first i rows. -/
def frow (M : List (List Int)) (X : List Int) (i : Nat) : Nat → Int
  | 0 => 0
  | k + 1 => frow M X i k + X.getD i 0 * ent M i k * X.getD k 0
def fsum (M : List (List Int)) (X : List Int) (n : Nat) : Nat → Int
  | 0 => 0
  | i + 1 => fsum M X n i + frow M X i n
theorem frow_succ (M : List (List Int)) (X : List Int) (i k : Nat) : frow M X i (k + 1) = frow M X i k + X.getD i 0 * ent M i k * X.getD k 0 := rfl
theorem fsum_succ (M : List (List Int)) (X : List Int) (n i : Nat) : fsum M X n (i + 1) = fsum M X n i + frow M X i n := rfl
theorem term_bd {M : List (List Int)} {X : List Int} (h : matB M = true) (hX : ∀ j, j < M.length → -1000 ≤ X.getD j 0 ∧ X.getD j 0 ≤ 1000) {i k : Nat} (hi : i < M.length) (hk : k < M.length) :
    (-20000 ≤ X.getD i 0 * ent M i k ∧ X.getD i 0 * ent M i k ≤ 20000) ∧ -20000000 ≤ X.getD i 0 * ent M i k * X.getD k 0 ∧ X.getD i 0 * ent M i k * X.getD k 0 ≤ 20000000 := by
  obtain ⟨_, _, _, h4⟩ := matB_facts h
  have h1 := hX i hi
  have h2 := hX k hk
  have h3 := h4 i k hi hk
  have ha := mul_bd h1.1 h1.2 h3.1 h3.2
  have hb := mul_bd ha.1 ha.2 h2.1 h2.2
  exact ⟨by omega, by omega⟩
theorem frow_bd {M : List (List Int)} {X : List Int} (h : matB M = true) (hX : ∀ j, j < M.length → -1000 ≤ X.getD j 0 ∧ X.getD j 0 ≤ 1000) {i : Nat} (hi : i < M.length) : ∀ k, k ≤ M.length → -(20000000 * (k : Int)) ≤ frow M X i k ∧ frow M X i k ≤ 20000000 * (k : Int) := by
  intro k
  induction k with
  | zero => intro _; simp [frow]
  | succ k ih =>
    intro hk
    have h1 := ih (by omega)
    have h2 := (term_bd h hX hi (show k < M.length by omega)).2
    rw [frow_succ]
    omega
theorem fsum_bd {M : List (List Int)} {X : List Int} (h : matB M = true) (hX : ∀ j, j < M.length → -1000 ≤ X.getD j 0 ∧ X.getD j 0 ≤ 1000) : ∀ i, i ≤ M.length → -(100000000 * (i : Int)) ≤ fsum M X M.length i ∧ fsum M X M.length i ≤ 100000000 * (i : Int) := by
  intro i
  induction i with
  | zero => intro _; simp [fsum]
  | succ i ih =>
    intro hi
    have h1 := ih (by omega)
    have h2 := frow_bd h hX (show i < M.length by omega) M.length (Nat.le_refl _)
    have h3 := (matB_facts h).2.1
    rw [fsum_succ]
    omega

def formOut (M : List (List Int)) (X : List Int) : Int × Int :=
  if matB M = false then (0, 1) else if ¬ (X.length = M.length ∧ wit 1000 X = true) then (0, 2) else (fsum M X M.length M.length, 0)
theorem formOut_err1 {M : List (List Int)} {X : List Int} (h : matB M = false) : formOut M X = (0, 1) := by unfold formOut; rw [if_pos h]
theorem formOut_err2 {M : List (List Int)} {X : List Int} (h : matB M = true) (h2 : ¬ (X.length = M.length ∧ wit 1000 X = true)) : formOut M X = (0, 2) := by unfold formOut; rw [if_neg (by simp [h]), if_pos h2]
theorem formOut_ok {M : List (List Int)} {X : List Int} (h : matB M = true) (h2 : X.length = M.length ∧ wit 1000 X = true) : formOut M X = (fsum M X M.length M.length, 0) := by unfold formOut; rw [if_neg (by simp [h]), if_neg (fun c => c h2)]

/-- What a reader finds of a matrix and of as many numbers, whatever is new. -/
structure MX (w : World) (a : Option Addr) (c : Nat) (ax : Option Addr) (cx : Nat) (M : List (List Int)) (X : List Int) : Prop where
  rows : PM.Rows w (.slice a M.length c) M
  xs : Ints w (.slice ax M.length cx) X
theorem MX.at_ {w w' : World} {a ax : Option Addr} {c cx : Nat} {M : List (List Int)} {X : List Int} (h : MX w a c ax cx M X) (hb : Below w.heap.size w w') (hrl : ∀ j, j < M.length → (M.getD j []).length = M.length) (hl : X.length = M.length) {i k : Nat} (hi : i < M.length) (hk : k < M.length) :
    ∃ b off bk ok ck bx ox, a = some ⟨b, off, none⟩ ∧ ax = some ⟨bx, ox, none⟩ ∧ w'.cell? ⟨b, off + i, none⟩ = some (.slice (some ⟨bk, ok, none⟩) M.length ck) ∧ w'.cell? ⟨bk, ok + k, none⟩ = some (.int .i64 (ent M i k)) ∧
      w'.cell? ⟨bx, ox + i, none⟩ = some (.int .i64 (X.getD i 0)) ∧ w'.cell? ⟨bx, ox + k, none⟩ = some (.int .i64 (X.getD k 0)) := by
  obtain ⟨a1, cap, hv, _, _, hx⟩ := h.rows.below hb
  simp only [Value.slice.injEq] at hv
  obtain ⟨rfl, _, rfl⟩ := hv
  rcases hx with hx | ⟨b, off, rfl, _, hcell⟩
  · rw [hx] at hi; simp at hi
  obtain ⟨u, hu, hI⟩ := hcell i hi
  obtain ⟨ak, ck, rfl, _, _, _, hxk⟩ := hI
  have hrk := hrl i hi
  rcases hxk with hx | ⟨bk, ok, rfl, _, hck⟩
  · rw [hx] at hrk; simp at hrk; omega
  rw [hrk] at hu
  obtain ⟨a2, cap2, hv2, _, _, _, hxx⟩ := h.xs.below hb
  simp only [Value.slice.injEq] at hv2
  obtain ⟨rfl, _, rfl⟩ := hv2
  rcases hxx with hx | ⟨bx, ox, rfl, _, hcx⟩
  · rw [hx] at hl; simp at hl; omega
  exact ⟨b, off, bk, ok, ck, bx, ox, rfl, rfl, hu, hck k (by omega), hcx i (by omega), hcx k (by omega)⟩

set_option maxRecDepth 100000 in
set_option maxHeartbeats 1000000 in
theorem implFormAt_any (m q : Value) (M : List (List Int)) (X : List Int) (w : World) (h1 : PM.Rows w m M) (h2 : Ints w q X) : Calls Try.prog 51 #[m, q] w (OutN w (formOut M X)) := by
  have HS := Lib.hid (implIsMatrix_any m M w h1)
  cases hM : matB M
  · rw [formOut_err1 hM]
    obtain ⟨a1, c1, rfl, _⟩ := h1
    obtain ⟨a2, c2, rfl, _⟩ := h2
    have HM := Lib.hid hM
    clear hM
    go_enter Try.func51, Try.ntmps51
    go_wp2_with fail
    refine HS.out.mono ?_; rw [HM.out]; rintro e w1 ⟨rfl, rfl⟩
    go_wp2_with fail
    go_ret2
    exact ⟨rfl, by (repeat' (first | (with_reducible exact Below.refl _ _) | (with_reducible assumption) | (with_reducible refine Below.alloc ?_ ?_ _) | (with_reducible refine Below.drew ?_) | (with_reducible refine below_drewN ?_ _) | (with_reducible refine Below.setCell ?_ ?_ _) | (with_reducible refine Below.trans ?_ (Below.mono (by with_reducible assumption) ?_)) | (with_reducible exact Below.size (by with_reducible assumption)) | go_size))⟩
  by_cases hl : X.length = M.length
  case neg =>
    rw [formOut_err2 hM (fun c => hl c.1)]
    obtain ⟨a1, c1, rfl, hl1, hm1, _⟩ := h1
    obtain ⟨a2, c2, rfl, hl2, hm2, _⟩ := h2
    have hm := maxLen_le (Nat.le_trans hl2 hm2)
    have hm' := maxLen_le (Nat.le_trans hl1 hm1)
    have hne : ((X.length : Int) != (M.length : Int)) = true := by simp; omega
    have HM := Lib.hid hM
    clear hM hl hl1 hl2 hm1 hm2
    go_enter Try.func51, Try.ntmps51
    go_wp2_with fail
    refine HS.out.mono ?_; rw [HM.out]; rintro e w1 ⟨rfl, rfl⟩
    go_wp2_with fail
    go_ret2
    exact ⟨rfl, by (repeat' (first | (with_reducible exact Below.refl _ _) | (with_reducible assumption) | (with_reducible refine Below.alloc ?_ ?_ _) | (with_reducible refine Below.drew ?_) | (with_reducible refine below_drewN ?_ _) | (with_reducible refine Below.setCell ?_ ?_ _) | (with_reducible refine Below.trans ?_ (Below.mono (by with_reducible assumption) ?_)) | (with_reducible exact Below.size (by with_reducible assumption)) | go_size))⟩
  have HA := Lib.hid (areWithin_any q X 1000 w h2 (by omega) (by omega))
  obtain ⟨f1, f2, f3, f4⟩ := matB_facts hM
  cases hw : wit 1000 X
  · rw [formOut_err2 hM (fun c => by rw [hw] at c; exact absurd c.2 (by simp))]
    obtain ⟨a1, c1, rfl, _⟩ := h1
    obtain ⟨a2, c2, rfl, _⟩ := h2
    have HM := Lib.hid hM
    have HW := Lib.hid hw
    rw [hl] at HA ⊢
    clear hM hw hl f3 f4
    go_enter Try.func51, Try.ntmps51
    go_wp2_with fail
    refine HS.out.mono ?_; rw [HM.out]; rintro e w1 ⟨rfl, rfl⟩
    go_wp2_with fail
    refine HA.out.mono ?_; rw [HW.out]; rintro e w1 ⟨rfl, rfl⟩
    go_wp2_with fail
    go_ret2
    exact ⟨rfl, by (repeat' (first | (with_reducible exact Below.refl _ _) | (with_reducible assumption) | (with_reducible refine Below.alloc ?_ ?_ _) | (with_reducible refine Below.drew ?_) | (with_reducible refine below_drewN ?_ _) | (with_reducible refine Below.setCell ?_ ?_ _) | (with_reducible refine Below.trans ?_ (Below.mono (by with_reducible assumption) ?_)) | (with_reducible exact Below.size (by with_reducible assumption)) | go_size))⟩
  rw [formOut_ok hM ⟨hl, hw⟩]
  have hX : ∀ j, j < M.length → -1000 ≤ X.getD j 0 ∧ X.getD j 0 ≤ 1000 := fun j hj => (wit_iff 1000 X).1 hw j (by omega)
  have HT : Hid (∀ i k, i < M.length → k < M.length → (-20000 ≤ X.getD i 0 * ent M i k ∧ X.getD i 0 * ent M i k ≤ 20000) ∧ -20000000 ≤ X.getD i 0 * ent M i k * X.getD k 0 ∧ X.getD i 0 * ent M i k * X.getD k 0 ≤ 20000000) := fun i k hi hk => term_bd hM hX hi hk
  have HR : Hid (∀ i, i < M.length → ∀ k, k ≤ M.length → -(20000000 * (k : Int)) ≤ frow M X i k ∧ frow M X i k ≤ 20000000 * (k : Int)) := fun i hi => frow_bd hM hX hi
  have HF : Hid (∀ i, i ≤ M.length → -(100000000 * (i : Int)) ≤ fsum M X M.length i ∧ fsum M X M.length i ≤ 100000000 * (i : Int)) := fsum_bd hM hX
  obtain ⟨a1, c1, rfl, _⟩ := id h1
  obtain ⟨a2, c2, rfl, _⟩ := id h2
  rw [hl] at HA h2 ⊢
  have HMX : Hid (MX w a1 c1 a2 c2 M X) := ⟨h1, h2⟩
  have HC := Lib.hid (fun (w' : World) (hb : Below w.heap.size w w') (i k : Nat) (hi : i < M.length) (hk : k < M.length) => HMX.out.at_ hb f3 hl hi hk)
  obtain ⟨b, off, _, _, _, bx, ox, rfl, rfl, _⟩ := HC.out w (Below.refl _ _) 0 0 (by omega) (by omega)
  have HM := Lib.hid hM
  have HW := Lib.hid hw
  have HL := Lib.hid hl
  clear hM hw hl f3 f4 hX h1 h2 HMX
  go_enter Try.func51, Try.ntmps51
  go_wp2_with fail
  refine HS.out.mono ?_; rw [HM.out]; rintro e w1 ⟨rfl, rfl⟩
  go_wp2_with fail
  refine HA.out.mono ?_; rw [HW.out]; rintro e w1 ⟨rfl, rfl⟩
  go_wp2_with fail
  go_loopw [6, 7, 8, 9, 10, 26, 33] (fun s _ _ _ _ c _ wr => ∃ (i : Nat), i ≤ M.length ∧ c = .int .i64 i ∧ s = .int .i64 (fsum M X M.length i) ∧ Below w.heap.size w wr) (fun _ _ _ _ _ c _ _ => M.length - (intOf c).toNat)
  case atStart => exact ⟨0, Nat.zero_le _, rfl, rfl, Below.refl _ _⟩
  case round =>
    obtain ⟨i, hi, rfl, rfl, hB⟩ := hrel
    obtain ⟨Wr, rfl⟩ : ∃ W, W = wr := ⟨_, rfl⟩
    by_cases hlt : i < M.length
    · obtain ⟨b1, off1, bk, ok, ck, bx1, ox1, hv, hv', t1, _⟩ := HC.out Wr hB i i hlt hlt
      simp only [Option.some.injEq, Addr.mk.injEq, and_true] at hv hv'
      obtain ⟨rfl, rfl⟩ := hv
      obtain ⟨rfl, rfl⟩ := hv'
      have HB := Lib.hid hB
      have HT1 := Lib.hid t1
      have hfs := HF.out i (by omega)
      clear hB
      go_wp2_with fail
      go_loopw [6, 9, 10, 33] (fun s _ _ c wi => ∃ (k : Nat), k ≤ M.length ∧ c = .int .i64 k ∧ s = .int .i64 (fsum M X M.length i + frow M X i k) ∧ Below w.heap.size w wi ∧ Below Wr.heap.size Wr wi) (fun _ _ _ c _ => M.length - (intOf c).toNat)
      case atStart => exact ⟨0, Nat.zero_le _, rfl, by simp [frow], HB.out, Below.refl _ _⟩
      case round =>
        obtain ⟨k, hk, rfl, rfl, hBI, hBr⟩ := hrel
        by_cases hltk : k < M.length
        · obtain ⟨b', off', bk', ok', ck', bx', ox', hv, hv', d1, d2, d3, d4⟩ := HC.out wr hBI i k hlt hltk
          simp only [Option.some.injEq, Addr.mk.injEq, and_true] at hv hv'
          obtain ⟨rfl, rfl⟩ := hv
          obtain ⟨rfl, rfl⟩ := hv'
          have he := ((hBr.cell (p := ⟨b, off + i, none⟩) (World.block_lt_of_cell? Wr _ HT1.out)).trans HT1.out).symm.trans d1
          simp only [Option.some.injEq, Value.slice.injEq, Addr.mk.injEq, and_true, true_and] at he
          obtain ⟨⟨rfl, rfl⟩, rfl⟩ := he
          obtain ⟨⟨p1, p2⟩, p3, p4⟩ := HT.out i k hlt hltk
          have hr := HR.out i hlt k hk
          have HN := Lib.hid (frow_succ M X i k)
          have HBI := Lib.hid hBI
          have HBr := Lib.hid hBr
          clear hBI hBr
          generalize X.getD i 0 = x at *
          generalize ent M i k = y at *
          generalize X.getD k 0 = z at *
          generalize frow M X i k = r at *
          generalize fsum M X M.length i = s at *
          have i0 : (0 : Int) ≤ (i : Int) := by omega
          have i1 : (i : Int) < (M.length : Int) := by omega
          have k0 : (0 : Int) ≤ (k : Int) := by omega
          have k1 : (k : Int) < (M.length : Int) := by omega
          have hw1 : IntKind.i64.wrap (x * y) = x * y := IntWalk.i64_in _ (by omega)
          have hw2 : IntKind.i64.wrap (x * y * z) = x * y * z := IntWalk.i64_in _ (by omega)
          have hw3 : IntKind.i64.wrap (s + r + x * y * z) = s + r + x * y * z := IntWalk.i64_in _ (by omega)
          clear p1 p2 p3 p4 hr hfs
          go_wp2_with fail
          go_quiet (fail)
          go_wp2_with fail
          go_roundw
          case rel => exact ⟨k + 1, by omega, by go_num, by rw [HN.out, Int.add_assoc], below_drewN HBI.out _, below_drewN HBr.out _⟩
          case measure => simp [intOf]; omega
        · obtain rfl : k = M.length := by omega
          rw [← fsum_succ]
          have HBI := Lib.hid hBI
          clear hBI hBr hfs
          obtain ⟨s, hs⟩ : ∃ s, s = fsum M X M.length (i + 1) := ⟨_, rfl⟩
          rw [← hs]
          have HSS := Lib.hid hs
          clear hs
          go_wp2_with fail
          go_roundw
          case rel => exact ⟨i + 1, by omega, by go_num, by rw [HSS.out], HBI.out⟩
          case measure => simp [intOf]; omega
    · obtain rfl : i = M.length := by omega
      generalize fsum M X M.length M.length = s at *
      go_wp2_with fail
      go_ret2
      exact ⟨rfl, hB⟩
end Go.Proofs.Ytbfpneonmefndaa.PW
