/-
  Walks: the rows of the columns of a set, in the model.
-/
import Derived.Test.YtbcclhdfpboidaaDoorPApp
namespace Go.Proofs.YtbcclhdfpboidaaDoor.PW
open Go.RowKit Go.Proofs.YtbcclhdfpboidaaDoor
open Go.Proofs.YtbcclhdfpboidaaDoor.PM

/-- The columns of a set. -/
def colS (M : List (List Int)) (s : Int) (a b : Nat) : Int := if bit s b = true then - ent M a b else unitG a b
theorem mem_memTo (n : Nat) (s : Int) (b : Nat) : ∀ k, k ≤ n → (b ∈ (memTo n s k).map Fin.val ↔ b < k ∧ bit s b = true) := by
  intro k
  induction k with
  | zero => intro _; simp [memTo]
  | succ k ih =>
    intro hk
    have h := ih (by omega)
    cases hbk : bit s k
    · rw [memTo_no hbk, h]
      constructor
      · rintro ⟨h1, h2⟩; exact ⟨by omega, h2⟩
      · rintro ⟨h1, h2⟩
        refine ⟨?_, h2⟩
        rcases Nat.lt_or_ge b k with c | c
        · exact c
        · obtain rfl : b = k := by omega
          rw [hbk] at h2; cases h2
    · rw [memTo_yes (show k < n by omega) hbk, List.map_append, List.mem_append, h]
      simp
      constructor
      · rintro (⟨h1, h2⟩ | h1)
        · exact ⟨by omega, h2⟩
        · subst h1; exact ⟨by omega, hbk⟩
      · rintro ⟨h1, h2⟩
        by_cases e : b = k
        · exact .inr e
        · exact .inl ⟨by omega, h2⟩
theorem colG_colS (M : List (List Int)) (n : Nat) (s : Int) : tab n (colG M ((memTo n s n).map Fin.val)) = tab n (colS M s) := tab_congr (fun a b _ hb => by
  unfold colG colS
  have := mem_memTo n s b n (Nat.le_refl _)
  by_cases e : bit s b = true
  · rw [if_pos e, if_pos (this.2 ⟨hb, e⟩)]
  · rw [if_neg e, if_neg (fun c => e (this.1 c).2)])

theorem tab_snoc (n i : Nat) (g : Nat → Nat → Int) : ((List.range (i + 1)).map fun a => (List.range n).map (g a)) = ((List.range i).map fun a => (List.range n).map (g a)) ++ [(List.range n).map (g i)] := by simp [List.range_succ]
theorem rows_snoc (j : Nat) (f : Nat → Int) : (List.range (j + 1)).map f = (List.range j).map f ++ [f j] := by simp [List.range_succ]

set_option maxRecDepth 100000 in
set_option maxHeartbeats 1000000 in
theorem l01Columns_any (m : Value) (M : List (List Int)) (s : Int) (w : World) (h1 : PM.Rows w m M) (hn1 : 1 ≤ M.length) (hn5 : M.length ≤ 5) (hrl : ∀ j, j < M.length → (M.getD j []).length = M.length)
    (hme : ∀ j c, j < M.length → c < M.length → -20 ≤ ent M j c ∧ ent M j c ≤ 20) :
    Calls Tryd.prog 66 #[m, .int .i64 s] w fun e w' => ∃ g cap us, e = .returned (.slice (some ⟨g, 0, none⟩) M.length cap) ∧ FreshR w.heap.size w' (.slice (some ⟨g, 0, none⟩) M.length cap) (tab M.length (colS M s)) us ∧ Below w.heap.size w w' := by
  have g1 := fun (w' : World) (h : Below w.heap.size w w') => h1.below h
  obtain ⟨a1, cM, rfl, _, _, hx⟩ := h1
  obtain ⟨b, off, rfl, hblt, hcell⟩ : ∃ b off, a1 = some ⟨b, off, none⟩ ∧ b < w.heap.size ∧ ∀ i, i < M.length → ∃ u, w.cell? ⟨b, off + i, none⟩ = some u ∧ Ints w u (M.getD i []) := by
    rcases hx with hx | hx
    · rw [hx] at hn1; simp at hn1
    · exact hx
  have HRL := Lib.hid hrl
  have HME := Lib.hid hme
  have HCE := Lib.hid hcell
  obtain ⟨i0, hi, hzz0, hzz1, hzz2⟩ := info_parts info_ints
  obtain ⟨j0, hj, hyy0, hyy1, hyy2⟩ := info_parts info_int
  clear hrl hme hcell hx
  have hF0 := freshR_nil w
  have hB0 : Below w.heap.size w (w.alloc (.cells #[] 23)) := (Below.refl _ _).alloc (Nat.le_refl _) _
  have HF0 := Lib.hid hF0
  clear hF0
  go_enter Tryd.func66, Tryd.ntmps66
  go_wp2_with fail
  go_loopw [5, 6, 7, 8] (fun v i _ _ wr => ∃ (k : Nat) (us : List Value), k ≤ M.length ∧ i = .int .i64 k ∧ FreshR w.heap.size wr v ((List.range k).map fun a => (List.range M.length).map (colS M s a)) us ∧ Below w.heap.size w wr) (fun _ i _ _ _ => M.length - (intOf i).toNat)
  case atStart => exact ⟨0, [], Nat.zero_le _, rfl, HF0.out, hB0⟩
  case round =>
    obtain ⟨k, us, hk, rfl, hF, hB⟩ := hrel
    by_cases hlt : k < M.length
    · have HF := Lib.hid hF
      clear hF
      obtain ⟨W1, rfl⟩ : ∃ W1, W1 = wr := ⟨_, rfl⟩
      have HB := Lib.hid hB
      have hzr := hB.size
      clear hB
      go_wp2_with fail
      go_loopw [7, 8] (fun v c wi => ∃ (j : Nat), j ≤ M.length ∧ c = .int .i64 j ∧ FreshI W1.heap.size wi v ((List.range j).map (colS M s k)) ∧ Below W1.heap.size W1 wi) (fun _ c _ => M.length - (intOf c).toNat)
      case atStart => exact ⟨0, Nat.zero_le _, rfl, freshI_nil W1, (Below.refl _ _).alloc (Nat.le_refl _) _⟩
      case round =>
        obtain ⟨j, hjj, rfl, hI, hBI⟩ := hrel
        have hzi := hBI.size
        by_cases hltj : j < M.length
        · obtain ⟨u, c3, hIr⟩ := HCE.out k hlt
          have c3' := ((HB.out.trans (hBI.mono hzr)).cell (p := ⟨b, off + k, none⟩) hblt).trans c3
          have hrk := HRL.out k hlt
          obtain ⟨ak, ck, rfl, _, _, _, hxk⟩ := hIr
          obtain ⟨bk, ok, rfl, hbk, hck⟩ : ∃ b off, ak = some ⟨b, off, none⟩ ∧ b < w.heap.size ∧ CellsAt w b off (M.getD k []) := by
            rcases hxk with hx | hx
            · rw [hx] at hrk; simp at hrk; omega
            · exact hx
          have c5 := ((HB.out.trans (hBI.mono hzr)).cell (p := ⟨bk, ok + j, none⟩) hbk).trans (hck j (by omega))
          rw [hrk] at c3'
          have hent : (M.getD k []).getD j 0 = ent M k j := rfl
          rw [hent] at c5
          obtain ⟨hbd1, hbd2⟩ := HME.out k j hlt hltj
          have how := hI.owns
          rw [row_length] at how
          have HOW := Lib.hid how
          have HI := Lib.hid hI
          have HBI := Lib.hid hBI
          clear how hI hBI hck hrk c3 hxk hent
          by_cases hb : bits BinOp.and IntKind.i64 (s / 2 ^ j) 1 = 1
          · have HX := Lib.hid (show colS M s k j = - ent M k j from by unfold colS bit; rw [if_pos (decide_eq_true hb)])
            go_wp2_with (at_builtin; refine wpList_append_lies _ rfl _ _ 23 rfl 0 2 j0 (.int .i64 0) 1 8 Tryd.underlying23 hj hyy0 hyy1 hyy2 rfl (by decide) u7 j _ rfl ((HOW.out).alloc _) _ 1 _ [.int .i64 (- ent M k j)] rfl rfl (cell_one_new _ _ _) (by simp [Value.oneCell']) (by decide) (by unfold maxLen; omega) (by omega) (Nat.zero_le _) _ rfl ?_; intro g cap w3 hown hgrow hat hgl)
            have hpu := HI.out.push (by omega) (by simp) hown hat hgl
            have hgr := HI.out.grow HBI.out (by have := HBI.out.size; omega) hgrow
            rw [← HX.out, ← rows_snoc] at hpu
            have HPU := Lib.hid hpu
            have HGR := Lib.hid hgr
            clear hpu hgr hown hgrow hat hgl
            go_wp2_with fail
            go_roundw
            case rel => exact ⟨j + 1, by omega, by go_num, HPU.out, HGR.out⟩
            case measure => simp [intOf]; omega
          · by_cases e : k = j
            · subst e
              have HX := Lib.hid (show colS M s k k = 1 from by unfold colS bit; rw [if_neg (by rw [decide_eq_false hb]; exact Bool.noConfusion)]; unfold unitG; rw [if_pos rfl])
              go_wp2_with (at_builtin; refine wpList_append_lies _ rfl _ _ 23 rfl 0 2 j0 (.int .i64 0) 1 8 Tryd.underlying23 hj hyy0 hyy1 hyy2 rfl (by decide) u7 k _ rfl ((HOW.out).alloc _) _ 1 _ [.int .i64 (1)] rfl rfl (cell_one_new _ _ _) (by simp [Value.oneCell']) (by decide) (by unfold maxLen; omega) (by omega) (Nat.zero_le _) _ rfl ?_; intro g cap w3 hown hgrow hat hgl)
              have hpu := HI.out.push (by omega) (by simp) hown hat hgl
              have hgr := HI.out.grow HBI.out (by have := HBI.out.size; omega) hgrow
              rw [← HX.out, ← rows_snoc] at hpu
              have HPU := Lib.hid hpu
              have HGR := Lib.hid hgr
              clear hpu hgr hown hgrow hat hgl
              go_wp2_with fail
              go_roundw
              case rel => exact ⟨k + 1, by omega, by go_num, HPU.out, HGR.out⟩
              case measure => simp [intOf]; omega
            · have HX := Lib.hid (show colS M s k j = 0 from by unfold colS bit; rw [if_neg (by rw [decide_eq_false hb]; exact Bool.noConfusion)]; unfold unitG; rw [if_neg (fun c => e c.symm)])
              go_wp2_with (at_builtin; refine wpList_append_lies _ rfl _ _ 23 rfl 0 2 j0 (.int .i64 0) 1 8 Tryd.underlying23 hj hyy0 hyy1 hyy2 rfl (by decide) u7 j _ rfl ((HOW.out).alloc _) _ 1 _ [.int .i64 (0)] rfl rfl (cell_one_new _ _ _) (by simp [Value.oneCell']) (by decide) (by unfold maxLen; omega) (by omega) (Nat.zero_le _) _ rfl ?_; intro g cap w3 hown hgrow hat hgl)
              have hpu := HI.out.push (by omega) (by simp) hown hat hgl
              have hgr := HI.out.grow HBI.out (by have := HBI.out.size; omega) hgrow
              rw [← HX.out, ← rows_snoc] at hpu
              have HPU := Lib.hid hpu
              have HGR := Lib.hid hgr
              clear hpu hgr hown hgrow hat hgl
              go_wp2_with fail
              go_roundw
              case rel => exact ⟨j + 1, by omega, by go_num, HPU.out, HGR.out⟩
              case measure => simp [intOf]; omega
        · obtain rfl : j = M.length := by omega
          obtain ⟨gu, cu, hgu, hgu1, hgu2, hguo⟩ := id hI
          rw [row_length] at hgu
          subst hgu
          have hI' : FreshI W1.heap.size wr (.slice (some ⟨gu, 0, none⟩) M.length cu) ((List.range M.length).map (colS M s k)) := hI
          have hFw := HF.out.below hBI
          have how : wr.ownsRow 0 23 1 u5 k us := by
            have := hFw.own.top
            rwa [show ((List.range k).map fun a => (List.range M.length).map (colS M s a)).length = k by simp] at this
          have HOW := Lib.hid how
          have HI := Lib.hid hI'
          have HBI := Lib.hid hBI
          clear hI hBI how hFw hguo hgu1 hgu2
          go_wp2_with (at_builtin; refine wpList_append_lies _ rfl _ _ 22 rfl 0 23 i0 (.slice none 0 0) 1 24 Tryd.underlying22 hi hzz0 hzz1 hzz2 rfl (by decide) u5 k us rfl ((HOW.out).alloc _) _ 1 _ [.slice (some ⟨gu, 0, none⟩) M.length cu] rfl rfl (cell_one_new _ _ _) (by simp [Value.oneCell']) (by decide) (by unfold maxLen; omega) (by omega) (Nat.zero_le _) _ rfl ?_; intro g cap w3 hown hgrow hat hgl)
          have hall : Below wr.heap.size wr (wr.alloc (.cells #[.slice (some ⟨gu, 0, none⟩) M.length cu] 23)) := (Below.refl _ _).alloc (Nat.le_refl _) _
          have hpu := HF.out.push hzr ((HI.out).below hall) (HBI.out.trans (hall.mono hzi)) (by simpa using hown) hgrow hat hgl
          have hgr : Below w.heap.size w w3 := by
            obtain ⟨gv, cv, hv, hv1, hv2⟩ := HF.out.top
            exact ((HB.out.trans (HBI.out.mono hzr)).alloc (by omega) _).grown hgrow (by simp; omega) (fun b hb' => by rw [hv] at hb'; simp [Value.ownBlock] at hb'; omega)
          rw [← tab_snoc, show ((List.range k).map fun a => (List.range M.length).map (colS M s a)).length + 1 = k + 1 by simp] at hpu
          have HPU := Lib.hid hpu
          have HGR := Lib.hid hgr
          clear hpu hgr hown hgrow hat hgl hall
          go_wp2_with fail
          go_roundw
          case rel => exact ⟨k + 1, _, by omega, by go_num, HPU.out, HGR.out⟩
          case measure => simp [intOf]; omega
    · obtain rfl : k = M.length := by omega
      obtain ⟨gv, cv, hv, hv1, hv2⟩ := id hF.top
      rw [show ((List.range M.length).map fun a => (List.range M.length).map (colS M s a)).length = M.length by simp] at hv
      subst hv
      have HF := Lib.hid hF
      have HB := Lib.hid hB
      clear hF hB
      go_wp2_with fail
      go_ret
      exact ⟨_, _, us, rfl, HF.out, HB.out⟩
end Go.Proofs.YtbcclhdfpboidaaDoor.PW
