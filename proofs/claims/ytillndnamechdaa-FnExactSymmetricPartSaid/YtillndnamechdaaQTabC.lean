/-
  Walks: the comparison matrix, in the model.
-/
import Derived.Test.YtillndnamechdaaQTab
namespace Go.Proofs.Ytillndnamechdaa.PW
open Go.RowKit Go.Proofs.Ytillndnamechdaa
open Go.Proofs.Ytillndnamechdaa.PM Go.Proofs.Ytillndnamechdaa.PX

set_option maxRecDepth 100000 in
set_option maxHeartbeats 2000000 in
theorem l03Comparison_any (m : Value) (M : List (List Int)) (w : World) (h1 : PM.Rows w m M) (hn1 : 1 ≤ M.length) (hn5 : M.length ≤ 5) (hrl : ∀ j, j < M.length → (M.getD j []).length = M.length)
    (hme : ∀ j c, j < M.length → c < M.length → -20 ≤ ent M j c ∧ ent M j c ≤ 20) :
    Calls Try.prog 72 #[m] w fun e w' => ∃ g cap us, e = .returned (.slice (some ⟨g, 0, none⟩) M.length cap) ∧ FreshR w.heap.size w' (.slice (some ⟨g, 0, none⟩) M.length cap) (tab M.length (cmpG M)) us ∧ Below w.heap.size w w' := by
  have hmx : Try.prog.follows .mixedOrders = true := by kernel_rfl
  have G1 := Lib.hid h1
  obtain ⟨a1, cM, rfl, _, _, hx⟩ := h1
  obtain ⟨b, off, rfl, hblt, hcell⟩ : ∃ b off, a1 = some ⟨b, off, none⟩ ∧ b < w.heap.size ∧ ∀ i, i < M.length → ∃ u, w.cell? ⟨b, off + i, none⟩ = some u ∧ Ints w u (M.getD i []) := by
    rcases hx with hx | hx
    · rw [hx] at hn1; simp at hn1
    · exact hx
  have HRL := Lib.hid hrl
  have HME := Lib.hid hme
  have HCE := Lib.hid hcell
  obtain ⟨i0, hi, hzz0, hzz1, hzz2⟩ := info_parts info_ints
  obtain ⟨j0, hj, hyy0, hyy1, hyy2⟩ := info_parts info_int
  clear hrl hme hcell hx
  have hF0 := freshR_nil w
  have hB0 : Below w.heap.size w (w.alloc (.cells #[] 23)) := (Below.refl _ _).alloc (Nat.le_refl _) _
  have HF0 := Lib.hid hF0
  clear hF0
  go_enter Try.func72, Try.ntmps72
  go_wp2_with fail
  go_loopw [3, 4, 5, 6, 7] (fun v i _ _ _ wr => ∃ (k : Nat) (us : List Value), k ≤ M.length ∧ i = .int .i64 k ∧ FreshR w.heap.size wr v ((List.range k).map fun a => (List.range M.length).map (cmpG M a)) us ∧ Below w.heap.size w wr) (fun _ i _ _ _ _ => M.length - (intOf i).toNat)
  case atStart => exact ⟨0, [], Nat.zero_le _, rfl, HF0.out, hB0⟩
  case round =>
    obtain ⟨k, us, hk, rfl, hF, hB⟩ := hrel
    by_cases hlt : k < M.length
    · have HF := Lib.hid hF
      clear hF
      obtain ⟨W1, rfl⟩ : ∃ W1, W1 = wr := ⟨_, rfl⟩
      have HB := Lib.hid hB
      have hzr := hB.size
      clear hB
      go_wp2_with fail
      go_loopw [5, 6, 7] (fun v c _ wi => ∃ (j : Nat), j ≤ M.length ∧ c = .int .i64 j ∧ FreshI W1.heap.size wi v ((List.range j).map (cmpG M k)) ∧ Below W1.heap.size W1 wi) (fun _ c _ _ => M.length - (intOf c).toNat)
      case atStart => exact ⟨0, Nat.zero_le _, rfl, freshI_nil W1, (Below.refl _ _).alloc (Nat.le_refl _) _⟩
      case round =>
        obtain ⟨j, hjj, rfl, hI, hBI⟩ := hrel
        have hzi := hBI.size
        by_cases hltj : j < M.length
        · obtain ⟨u, c3, hIr⟩ := HCE.out k hlt
          have c3' := ((HB.out.trans (hBI.mono hzr)).cell (p := ⟨b, off + k, none⟩) hblt).trans c3
          have hrk := HRL.out k hlt
          obtain ⟨ak, ck, rfl, _, _, _, hxk⟩ := hIr
          obtain ⟨bk, ok, rfl, hbk, hck⟩ : ∃ b off, ak = some ⟨b, off, none⟩ ∧ b < w.heap.size ∧ CellsAt w b off (M.getD k []) := by
            rcases hxk with hx | hx
            · rw [hx] at hrk; simp at hrk; omega
            · exact hx
          have c5 := ((HB.out.trans (hBI.mono hzr)).cell (p := ⟨bk, ok + j, none⟩) hbk).trans (hck j (by omega))
          rw [hrk] at c3'
          have hent : (M.getD k []).getD j 0 = ent M k j := rfl
          rw [hent] at c5
          obtain ⟨hbd1, hbd2⟩ := HME.out k j hlt hltj
          have hI := hI.below (Below.refl _ _).drew
          have hBI : Below W1.heap.size W1 wr.drew := hBI.drew
          have hzi : W1.heap.size ≤ wr.drew.heap.size := hBI.size
          have how := hI.owns
          rw [row_length] at how
          have HOW := Lib.hid how
          have HI := Lib.hid hI
          have HBI := Lib.hid hBI
          have hG : ∀ x, ent M k j = x → cmpG M k j = if k = j then absI x else - absI x := fun x h => by subst h; rfl
          clear how hI hBI hck hrk c3 hxk hent
          generalize ent M k j = x at *
          have hG := hG x rfl
          go_wp2_with fail
          go_still_tail 15, hmx
          by_cases hx0 : 0 ≤ x
          · rw [show absI x = x by unfold absI; rw [if_pos hx0]] at hG
            have hmax : ¬ (-x > x) := by omega
            by_cases e : k = j
            · have HX := Lib.hid (hG.trans (if_pos e))
              subst e
              go_wp2_with (at_builtin; refine wpList_append_lies _ rfl _ _ 23 rfl 0 2 j0 (.int .i64 0) 1 8 Try.underlying23 hj hyy0 hyy1 hyy2 rfl (by decide) u5 k _ rfl ((HOW.out).alloc _) _ 1 _ [.int .i64 x] rfl rfl (cell_one_new _ _ _) (by simp [Value.oneCell']) (by decide) (by unfold maxLen; omega) (by omega) (Nat.zero_le _) _ rfl ?_; intro g cap w3 hown hgrow hat hgl)
              have hpu := HI.out.push (by omega) (by simp) hown hat hgl
              have hgr := HI.out.grow HBI.out (by have := HBI.out.size; omega) hgrow
              rw [← HX.out, ← rows_snoc] at hpu
              have HPU := Lib.hid hpu
              have HGR := Lib.hid hgr
              clear hpu hgr hown hgrow hat hgl
              go_wp2_with fail
              go_roundw
              case rel => exact ⟨k + 1, by omega, by go_num, HPU.out, HGR.out⟩
              case measure => simp [intOf]; omega
            · have HX := Lib.hid (hG.trans (if_neg e))
              go_wp2_with (at_builtin; refine wpList_append_lies _ rfl _ _ 23 rfl 0 2 j0 (.int .i64 0) 1 8 Try.underlying23 hj hyy0 hyy1 hyy2 rfl (by decide) u5 j _ rfl ((HOW.out).alloc _) _ 1 _ [.int .i64 (-x)] rfl rfl (cell_one_new _ _ _) (by simp [Value.oneCell']) (by decide) (by unfold maxLen; omega) (by omega) (Nat.zero_le _) _ rfl ?_; intro g cap w3 hown hgrow hat hgl)
              have hpu := HI.out.push (by omega) (by simp) hown hat hgl
              have hgr := HI.out.grow HBI.out (by have := HBI.out.size; omega) hgrow
              rw [← HX.out, ← rows_snoc] at hpu
              have HPU := Lib.hid hpu
              have HGR := Lib.hid hgr
              clear hpu hgr hown hgrow hat hgl
              go_wp2_with fail
              go_roundw
              case rel => exact ⟨j + 1, by omega, by go_num, HPU.out, HGR.out⟩
              case measure => simp [intOf]; omega
          · rw [show absI x = -x by unfold absI; rw [if_neg hx0]] at hG
            have hmax : -x > x := by omega
            by_cases e : k = j
            · have HX := Lib.hid (hG.trans (if_pos e))
              subst e
              go_wp2_with (at_builtin; refine wpList_append_lies _ rfl _ _ 23 rfl 0 2 j0 (.int .i64 0) 1 8 Try.underlying23 hj hyy0 hyy1 hyy2 rfl (by decide) u5 k _ rfl ((HOW.out).alloc _) _ 1 _ [.int .i64 (-x)] rfl rfl (cell_one_new _ _ _) (by simp [Value.oneCell']) (by decide) (by unfold maxLen; omega) (by omega) (Nat.zero_le _) _ rfl ?_; intro g cap w3 hown hgrow hat hgl)
              have hpu := HI.out.push (by omega) (by simp) hown hat hgl
              have hgr := HI.out.grow HBI.out (by have := HBI.out.size; omega) hgrow
              rw [← HX.out, ← rows_snoc] at hpu
              have HPU := Lib.hid hpu
              have HGR := Lib.hid hgr
              clear hpu hgr hown hgrow hat hgl
              go_wp2_with fail
              go_roundw
              case rel => exact ⟨k + 1, by omega, by go_num, HPU.out, HGR.out⟩
              case measure => simp [intOf]; omega
            · have HX := Lib.hid ((hG.trans (if_neg e)).trans (Int.neg_neg x))
              go_wp2_with (at_builtin; refine wpList_append_lies _ rfl _ _ 23 rfl 0 2 j0 (.int .i64 0) 1 8 Try.underlying23 hj hyy0 hyy1 hyy2 rfl (by decide) u5 j _ rfl ((HOW.out).alloc _) _ 1 _ [.int .i64 x] rfl rfl (cell_one_new _ _ _) (by simp [Value.oneCell']) (by decide) (by unfold maxLen; omega) (by omega) (Nat.zero_le _) _ rfl ?_; intro g cap w3 hown hgrow hat hgl)
              have hpu := HI.out.push (by omega) (by simp) hown hat hgl
              have hgr := HI.out.grow HBI.out (by have := HBI.out.size; omega) hgrow
              rw [← HX.out, ← rows_snoc] at hpu
              have HPU := Lib.hid hpu
              have HGR := Lib.hid hgr
              clear hpu hgr hown hgrow hat hgl
              go_wp2_with fail
              go_roundw
              case rel => exact ⟨j + 1, by omega, by go_num, HPU.out, HGR.out⟩
              case measure => simp [intOf]; omega
        · obtain rfl : j = M.length := by omega
          obtain ⟨gu, cu, hgu, hgu1, hgu2, hguo⟩ := id hI
          rw [row_length] at hgu
          subst hgu
          have hI' : FreshI W1.heap.size wr (.slice (some ⟨gu, 0, none⟩) M.length cu) ((List.range M.length).map (cmpG M k)) := hI
          have hFw := HF.out.below hBI
          have how : wr.ownsRow 0 23 1 u3 k us := by
            have := hFw.own.top
            rwa [show ((List.range k).map fun a => (List.range M.length).map (cmpG M a)).length = k by simp] at this
          have HOW := Lib.hid how
          have HI := Lib.hid hI'
          have HBI := Lib.hid hBI
          clear hI hBI how hFw hguo hgu1 hgu2
          go_wp2_with (at_builtin; refine wpList_append_lies _ rfl _ _ 22 rfl 0 23 i0 (.slice none 0 0) 1 24 Try.underlying22 hi hzz0 hzz1 hzz2 rfl (by decide) u3 k us rfl ((HOW.out).alloc _) _ 1 _ [.slice (some ⟨gu, 0, none⟩) M.length cu] rfl rfl (cell_one_new _ _ _) (by simp [Value.oneCell']) (by decide) (by unfold maxLen; omega) (by omega) (Nat.zero_le _) _ rfl ?_; intro g cap w3 hown hgrow hat hgl)
          have hall : Below wr.heap.size wr (wr.alloc (.cells #[.slice (some ⟨gu, 0, none⟩) M.length cu] 23)) := (Below.refl _ _).alloc (Nat.le_refl _) _
          have hpu := HF.out.push hzr ((HI.out).below hall) (HBI.out.trans (hall.mono hzi)) (by simpa using hown) hgrow hat hgl
          have hgr : Below w.heap.size w w3 := by
            obtain ⟨gv, cv, hv, hv1, hv2⟩ := HF.out.top
            exact ((HB.out.trans (HBI.out.mono hzr)).alloc (by omega) _).grown hgrow (by simp; omega) (fun b hb' => by rw [hv] at hb'; simp [Value.ownBlock] at hb'; omega)
          rw [← tab_snoc, show ((List.range k).map fun a => (List.range M.length).map (cmpG M a)).length + 1 = k + 1 by simp] at hpu
          have HPU := Lib.hid hpu
          have HGR := Lib.hid hgr
          clear hpu hgr hown hgrow hat hgl hall
          go_wp2_with fail
          go_roundw
          case rel => exact ⟨k + 1, _, by omega, by go_num, HPU.out, HGR.out⟩
          case measure => simp [intOf]; omega
    · obtain rfl : k = M.length := by omega
      obtain ⟨gv, cv, hv, hv1, hv2⟩ := id hF.top
      rw [show ((List.range M.length).map fun a => (List.range M.length).map (cmpG M a)).length = M.length by simp] at hv
      subst hv
      have HF := Lib.hid hF
      have HB := Lib.hid hB
      clear hF hB
      go_wp2_with fail
      go_ret
      exact ⟨_, _, us, rfl, HF.out, HB.out⟩
end Go.Proofs.Ytillndnamechdaa.PW
