/-
  Walks: twice the symmetric part, the comparison matrix, the signs, in the program; and both sides' answers.
-/
import Derived.Test.YtillndnamechdaaQSq
import Derived.Test.YtillndnamechdaaQTabC
import Derived.Test.YtillndnamechdaaQTabS
namespace Go.Proofs.Ytillndnamechdaa.PW
open Go.RowKit Go.Proofs.Ytillndnamechdaa
open Go.Proofs.Ytillndnamechdaa.PM Go.Proofs.Ytillndnamechdaa.PX

/-- A matrix that lies behind a variable. -/
structure MBox (w : World) (Bc : Nat) (a : Option Addr) (c : Nat) (M : List (List Int)) : Prop where
  cell : w.cell? ⟨Bc, 0, none⟩ = some (.slice a M.length c)
  rows : PM.Rows w (.slice a M.length c) M
  lt : Bc < w.heap.size
theorem MBox.below {w w' : World} {Bc c : Nat} {a : Option Addr} {M : List (List Int)} (h : MBox w Bc a c M) (hb : Below w.heap.size w w') : MBox w' Bc a c M :=
  ⟨(hb.cell (p := ⟨Bc, 0, none⟩) h.lt).trans h.cell, h.rows.below hb, Nat.lt_of_lt_of_le h.lt hb.size⟩
theorem MBox.new {w : World} {a : Option Addr} {c : Nat} {M : List (List Int)} (h : PM.Rows w (.slice a M.length c) M) : MBox (w.alloc (.cells #[.slice a M.length c] 22)) w.heap.size a c M :=
  ⟨by simp, h.below ((Below.refl _ _).alloc (Nat.le_refl _) _), by simp⟩
/-- The number at i, k, and what leads to it. -/
theorem MBox.at_ {w : World} {Bc c : Nat} {a : Option Addr} {M : List (List Int)} (h : MBox w Bc a c M) (hrl : ∀ j, j < M.length → (M.getD j []).length = M.length) {i k : Nat} (hi : i < M.length) (hk : k < M.length) :
    ∃ b off bk ok ck, a = some ⟨b, off, none⟩ ∧ w.cell? ⟨b, off + i, none⟩ = some (.slice (some ⟨bk, ok, none⟩) M.length ck) ∧ w.cell? ⟨bk, ok + k, none⟩ = some (.int .i64 (ent M i k)) := by
  obtain ⟨a1, cap, hv, _, _, hx⟩ := h.rows
  simp only [Value.slice.injEq] at hv
  obtain ⟨rfl, _, rfl⟩ := hv
  rcases hx with hx | ⟨b, off, rfl, _, hcell⟩
  · rw [hx] at hi; simp at hi
  obtain ⟨u, hu, hI⟩ := hcell i hi
  obtain ⟨ak, ck, rfl, _, _, _, hxk⟩ := hI
  have hrk := hrl i hi
  rcases hxk with hx | ⟨bk, ok, rfl, _, hck⟩
  · rw [hx] at hrk; simp at hrk; omega
  rw [hrk] at hu
  exact ⟨b, off, bk, ok, ck, rfl, hu, hck k (by omega)⟩

theorem sym_tells {w : World} {Bc c : Nat} {a : Option Addr} {M : List (List Int)} (h : MBox w Bc a c M) (_hn5 : M.length ≤ 5) (hrl : ∀ j, j < M.length → (M.getD j []).length = M.length) (hme : ∀ j c, j < M.length → c < M.length → -20 ≤ ent M j c ∧ ent M j c ≤ 20) :
    TellsAt 91 Bc M.length (symG M) w := by
  intro w' i k hb hi hk
  have h' := h.below hb
  have c0 := h'.cell
  obtain ⟨b, off, bk, ok, ck, rfl, d1, d2⟩ := h'.at_ hrl hi hk
  obtain ⟨b', off', bj, oj, cj, hv, d3, d4⟩ := h'.at_ hrl hk hi
  simp only [Option.some.injEq, Addr.mk.injEq, and_true] at hv
  obtain ⟨rfl, rfl⟩ := hv
  obtain ⟨e1, e2⟩ := hme i k hi hk
  obtain ⟨e3, e4⟩ := hme k i hk hi
  have hS : symG M i k = ent M i k + ent M k i := rfl
  rw [hS]
  clear h h' hrl hme hS hb
  generalize ent M i k = x at *
  generalize ent M k i = y at *
  go_enter Try.func91, Try.ntmps91
  go_wp2
  go_quiet (fail)
  go_wp2
  go_ret
  exact ⟨rfl, by (repeat' (first | (with_reducible exact Below.refl _ _) | (with_reducible assumption) | (with_reducible refine Below.alloc ?_ ?_ _) | (with_reducible refine Below.drew ?_) | (with_reducible refine below_drewN ?_ _) | (with_reducible refine Below.setCell ?_ ?_ _) | (with_reducible refine Below.trans ?_ (Below.mono (by with_reducible assumption) ?_)) | (with_reducible exact Below.size (by with_reducible assumption)) | go_size))⟩
theorem implSym_any (m : Value) (M : List (List Int)) (w : World) (h1 : PM.Rows w m M) (hn1 : 1 ≤ M.length) (hn5 : M.length ≤ 5) (hrl : ∀ j, j < M.length → (M.getD j []).length = M.length) (hme : ∀ j c, j < M.length → c < M.length → -20 ≤ ent M j c ∧ ent M j c ≤ 20) :
    Calls Try.prog 71 #[m] w fun e w' => ∃ g us, e = .returned (.slice (some ⟨g, 0, none⟩) M.length M.length) ∧ FreshR w.heap.size w' (.slice (some ⟨g, 0, none⟩) M.length M.length) (tab M.length (symG M)) us ∧ Below w.heap.size w w' := by
  obtain ⟨a1, c1, rfl, _⟩ := id h1
  have hB := MBox.new h1
  have hT := sym_tells hB hn5 hrl hme
  have hAl : Below w.heap.size w (w.alloc (.cells #[.slice a1 M.length c1] 22)) := (Below.refl _ _).alloc (Nat.le_refl _) _
  have HT := Lib.hid (squareRows_sym w.heap.size M.length (symG M) _ hn1 hn5 hT)
  have hz := hAl.size
  clear hB hT hrl hme h1
  go_enter Try.func71, Try.ntmps71
  go_wp2_with fail
  refine HT.out.mono ?_; rintro e w2 ⟨us, rfl, hf, hb2⟩
  go_wp2_with fail
  go_ret
  exact ⟨_, us, rfl, by simpa using hf.mono hz, hAl.trans (hb2.mono hz)⟩
theorem cmp_tells {w : World} {Bc c : Nat} {a : Option Addr} {M : List (List Int)} (h : MBox w Bc a c M) (_hn5 : M.length ≤ 5) (hrl : ∀ j, j < M.length → (M.getD j []).length = M.length) (hme : ∀ j c, j < M.length → c < M.length → -20 ≤ ent M j c ∧ ent M j c ≤ 20) :
    TellsAt 92 Bc M.length (cmpG M) w := by
  intro w' i k hb hi hk
  have h' := h.below hb
  have c0 := h'.cell
  obtain ⟨b, off, bk, ok, ck, rfl, d1, d2⟩ := h'.at_ hrl hi hk
  obtain ⟨e1, e2⟩ := hme i k hi hk
  have hS : cmpG M i k = if i = k then absI (ent M i k) else - absI (ent M i k) := rfl
  rw [hS]
  clear h h' hrl hme hS hb
  generalize ent M i k = x at *
  by_cases e : i = k
  · rw [if_pos e]
    subst e
    by_cases hx : 0 ≤ x
    · rw [show absI x = x by unfold absI; rw [if_pos hx]]
      have hm : ¬ (-x > x) := by omega
      go_enter Try.func92, Try.ntmps92
      go_wp2
      go_region
      all_goals
        go_wp2
        go_ret
        exact ⟨rfl, by (repeat' (first | (with_reducible exact Below.refl _ _) | (with_reducible assumption) | (with_reducible refine Below.alloc ?_ ?_ _) | (with_reducible refine Below.drew ?_) | (with_reducible refine below_drewN ?_ _) | (with_reducible refine Below.setCell ?_ ?_ _) | (with_reducible refine Below.trans ?_ (Below.mono (by with_reducible assumption) ?_)) | (with_reducible exact Below.size (by with_reducible assumption)) | go_size))⟩
    · rw [show absI x = -x by unfold absI; rw [if_neg hx]]
      have hm : -x > x := by omega
      go_enter Try.func92, Try.ntmps92
      go_wp2
      go_region
      all_goals
        go_wp2
        go_ret
        exact ⟨rfl, by (repeat' (first | (with_reducible exact Below.refl _ _) | (with_reducible assumption) | (with_reducible refine Below.alloc ?_ ?_ _) | (with_reducible refine Below.drew ?_) | (with_reducible refine below_drewN ?_ _) | (with_reducible refine Below.setCell ?_ ?_ _) | (with_reducible refine Below.trans ?_ (Below.mono (by with_reducible assumption) ?_)) | (with_reducible exact Below.size (by with_reducible assumption)) | go_size))⟩
  · rw [if_neg e]
    by_cases hx : 0 ≤ x
    · rw [show absI x = x by unfold absI; rw [if_pos hx]]
      obtain ⟨y, hy⟩ : ∃ y, y = -x := ⟨_, rfl⟩
      have hm : (if -x < x then -x else x) = -x := by
        by_cases c : -x < x
        · rw [if_pos c]
        · rw [if_neg c]; omega
      go_enter Try.func92, Try.ntmps92
      go_wp2
      go_region
      all_goals
        go_wp2
        go_ret
        exact ⟨rfl, by (repeat' (first | (with_reducible exact Below.refl _ _) | (with_reducible assumption) | (with_reducible refine Below.alloc ?_ ?_ _) | (with_reducible refine Below.drew ?_) | (with_reducible refine below_drewN ?_ _) | (with_reducible refine Below.setCell ?_ ?_ _) | (with_reducible refine Below.trans ?_ (Below.mono (by with_reducible assumption) ?_)) | (with_reducible exact Below.size (by with_reducible assumption)) | go_size))⟩
    · rw [show absI x = -x by unfold absI; rw [if_neg hx], Int.neg_neg]
      have hm : ¬ (-x < x) := by omega
      go_enter Try.func92, Try.ntmps92
      go_wp2
      go_region
      all_goals
        go_wp2
        go_ret
        exact ⟨rfl, by (repeat' (first | (with_reducible exact Below.refl _ _) | (with_reducible assumption) | (with_reducible refine Below.alloc ?_ ?_ _) | (with_reducible refine Below.drew ?_) | (with_reducible refine below_drewN ?_ _) | (with_reducible refine Below.setCell ?_ ?_ _) | (with_reducible refine Below.trans ?_ (Below.mono (by with_reducible assumption) ?_)) | (with_reducible exact Below.size (by with_reducible assumption)) | go_size))⟩
theorem implCmp_any (m : Value) (M : List (List Int)) (w : World) (h1 : PM.Rows w m M) (hn1 : 1 ≤ M.length) (hn5 : M.length ≤ 5) (hrl : ∀ j, j < M.length → (M.getD j []).length = M.length) (hme : ∀ j c, j < M.length → c < M.length → -20 ≤ ent M j c ∧ ent M j c ≤ 20) :
    Calls Try.prog 73 #[m] w fun e w' => ∃ g us, e = .returned (.slice (some ⟨g, 0, none⟩) M.length M.length) ∧ FreshR w.heap.size w' (.slice (some ⟨g, 0, none⟩) M.length M.length) (tab M.length (cmpG M)) us ∧ Below w.heap.size w w' := by
  obtain ⟨a1, c1, rfl, _⟩ := id h1
  have hB := MBox.new h1
  have hT := cmp_tells hB hn5 hrl hme
  have hAl : Below w.heap.size w (w.alloc (.cells #[.slice a1 M.length c1] 22)) := (Below.refl _ _).alloc (Nat.le_refl _) _
  have HT := Lib.hid (squareRows_cmp w.heap.size M.length (cmpG M) _ hn1 hn5 hT)
  have hz := hAl.size
  clear hB hT hrl hme h1
  go_enter Try.func73, Try.ntmps73
  go_wp2_with fail
  refine HT.out.mono ?_; rintro e w2 ⟨us, rfl, hf, hb2⟩
  go_wp2_with fail
  go_ret
  exact ⟨_, us, rfl, by simpa using hf.mono hz, hAl.trans (hb2.mono hz)⟩
theorem isNaN3_any (x : Int) (w : World) : Calls Try.prog 94 #[.int .i64 x] w fun e w' => e = .returned (.bool false) ∧ w = w' := by
  go_enter Try.func94, Try.ntmps94
  go_wp2
  go_ret
  exact ⟨ret_bool (by simp), rfl⟩
theorem compare3_any (x : Int) (w : World) : Calls Try.prog 77 #[.int .i64 x, .int .i64 0] w fun e w' => e = .returned (.int .i64 (sgnI x)) ∧ w = w' := by
  unfold sgnI
  by_cases h1 : x < 0
  · rw [if_pos h1]
    go_enter Try.func77, Try.ntmps77
    go_wp2_with (refine (isNaN3_any _ _).mono ?_; rintro e w' ⟨rfl, rfl⟩)
    go_ret
    exact ⟨rfl, rfl⟩
  · rw [if_neg h1]
    by_cases h2 : 0 < x
    · rw [if_pos h2]
      go_enter Try.func77, Try.ntmps77
      go_wp2_with (refine (isNaN3_any _ _).mono ?_; rintro e w' ⟨rfl, rfl⟩)
      go_ret
      exact ⟨rfl, rfl⟩
    · rw [if_neg h2]
      go_enter Try.func77, Try.ntmps77
      go_wp2_with (refine (isNaN3_any _ _).mono ?_; rintro e w' ⟨rfl, rfl⟩)
      go_ret
      exact ⟨rfl, rfl⟩
theorem sgn_tells {w : World} {Bc c : Nat} {a : Option Addr} {M : List (List Int)} (h : MBox w Bc a c M) (_hn5 : M.length ≤ 5) (hrl : ∀ j, j < M.length → (M.getD j []).length = M.length) :
    TellsAt 76 Bc M.length (sgnG M) w := by
  intro w' i k hb hi hk
  have h' := h.below hb
  have c0 := h'.cell
  obtain ⟨b, off, bk, ok, ck, rfl, d1, d2⟩ := h'.at_ hrl hi hk
  have hS : sgnG M i k = sgnI (ent M i k) := rfl
  rw [hS]
  clear h h' hrl hS hb
  generalize ent M i k = x at *
  have hc := fun w => compare3_any x w
  generalize sgnI x = sx at *
  have HC := Lib.hid hc
  clear hc
  go_enter Try.func76, Try.ntmps76
  go_wp2_with fail
  refine (HC.out _).mono ?_; rintro e w2 ⟨rfl, rfl⟩
  go_wp2_with fail
  go_ret
  exact ⟨rfl, by (repeat' (first | (with_reducible exact Below.refl _ _) | (with_reducible assumption) | (with_reducible refine Below.alloc ?_ ?_ _) | (with_reducible refine Below.drew ?_) | (with_reducible refine below_drewN ?_ _) | (with_reducible refine Below.setCell ?_ ?_ _) | (with_reducible refine Below.trans ?_ (Below.mono (by with_reducible assumption) ?_)) | (with_reducible exact Below.size (by with_reducible assumption)) | go_size))⟩
end Go.Proofs.Ytillndnamechdaa.PW
