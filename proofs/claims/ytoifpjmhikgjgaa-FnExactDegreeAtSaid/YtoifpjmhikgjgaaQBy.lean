/-
  Walks: the numbers of a matrix in the rows of one set and the columns of another one, and their determinant, in the model.
-/
import Derived.Test.YtoifpjmhikgjgaaQOnes
namespace Go.Proofs.Ytoifpjmhikgjgaa.PW
open Go.RowKit Go.Proofs.Ytoifpjmhikgjgaa
open Go.Proofs.Ytoifpjmhikgjgaa.PM Go.Proofs.Ytoifpjmhikgjgaa.PX

theorem partL_length (M : List (List Int)) (rs cs : Int) : (partL M rs cs).length = (memTo M.length rs M.length).length := by simp [partL, partTo]
theorem partL_row (M : List (List Int)) (rs cs : Int) {i : Nat} (h : i < (memTo M.length rs M.length).length) : ∃ a : Nat, (partL M rs cs).getD i [] = rowL M cs a := by
  refine ⟨((memTo M.length rs M.length)[i]).val, ?_⟩
  simp [partL, partTo, h]
theorem rowL_length (M : List (List Int)) (cs : Int) (a : Nat) : (rowL M cs a).length = (memTo M.length cs M.length).length := by simp [rowL]
theorem rowL_bd {M : List (List Int)} (hma : ∀ a b, Bd 20 (ent M a b)) (cs : Int) (a : Nat) : ∀ x ∈ rowL M cs a, Bd 20 x := by
  intro x hx
  unfold rowL at hx
  obtain ⟨q, _, rfl⟩ := List.mem_map.1 hx
  exact hma _ _
theorem partL_I64 {M : List (List Int)} (hma : ∀ a b, Bd 20 (ent M a b)) (rs cs : Int) : ∀ i, i < (partL M rs cs).length → ∀ x ∈ (partL M rs cs).getD i [], I64 x := by
  intro i hi x hx
  rw [partL_length] at hi
  obtain ⟨a, ha⟩ := partL_row M rs cs hi
  rw [ha] at hx
  have := rowL_bd hma cs a x hx
  unfold Bd at this
  unfold I64
  omega
theorem partL_rl (M : List (List Int)) (rs cs : Int) (hcnt : (memTo M.length rs M.length).length = (memTo M.length cs M.length).length) : ∀ i, i < (memTo M.length rs M.length).length → ((partL M rs cs).getD i []).length = (memTo M.length rs M.length).length := by
  intro i hi
  obtain ⟨a, ha⟩ := partL_row M rs cs hi
  rw [ha, rowL_length, hcnt]
theorem partL_bd {M : List (List Int)} (hma : ∀ a b, Bd 20 (ent M a b)) {rs cs : Int} (hcnt : (memTo M.length rs M.length).length = (memTo M.length cs M.length).length) (i j : Nat) : Bd 20 (ent (partL M rs cs) i j) := by
  refine ent_bdAll (B := fun _ => 20) (partL_length M rs cs) (partL_rl M rs cs hcnt) (fun _ => by decide) (fun i j hi hj => ?_) i j
  obtain ⟨a, ha⟩ := partL_row M rs cs hi
  unfold ent
  rw [ha]
  refine rowL_bd hma cs a _ ?_
  have hl : j < (rowL M cs a).length := by rw [rowL_length, ← hcnt]; exact hj
  rw [getD_at _ _ hl]
  exact List.getElem_mem hl
theorem partL_tab {M : List (List Int)} {rs cs : Int} (hcnt : (memTo M.length rs M.length).length = (memTo M.length cs M.length).length) : partL M rs cs = tab (memTo M.length rs M.length).length (ent (partL M rs cs)) :=
  tab_ent (partL_length M rs cs) (partL_rl M rs cs hcnt)
theorem partL_det {M : List (List Int)} {rs cs : Int} {s : World} {v : Value} (hn5 : M.length ≤ 5) (hcnt : (memTo M.length rs M.length).length = (memTo M.length cs M.length).length) (hma : ∀ a b, Bd 20 (ent M a b)) (hr : PM.Rows s v (partL M rs cs)) :
    Calls Try.prog 67 #[v] s fun e w' => e = .returned (.int .i64 (dt (memTo M.length rs M.length).length (ent (partL M rs cs)))) ∧ Below s.heap.size s w' := by
  have hl := memTo_length M.length rs M.length
  rw [partL_tab hcnt] at hr
  exact l01Det_any _ (by omega) v s (ent (partL M rs cs)) hr (fun i j => (partL_bd hma hcnt i j).mono (by decide))
set_option maxRecDepth 100000 in
set_option maxHeartbeats 2000000 in
theorem l01Part_any (m : Value) (M : List (List Int)) (s : Int) (w : World) (h1 : PM.Rows w m M) (hn1 : 1 ≤ M.length) (hn5 : M.length ≤ 5) (hrl : ∀ j, j < M.length → (M.getD j []).length = M.length)
    (hma : ∀ a b, Bd 20 (ent M a b)) (hs0 : 0 ≤ s) (hs1 : s < 32) :
    Calls Try.prog 90 #[m, .int .i64 s] w fun e w' => ∃ g cap us, e = .returned (.slice (some ⟨g, 0, none⟩) (memTo M.length s M.length).length cap) ∧ FreshR w.heap.size w' (.slice (some ⟨g, 0, none⟩) (memTo M.length s M.length).length cap) (partL M s s) us ∧ Below w.heap.size w w' := by
  obtain ⟨a1, cM, rfl, _, _, hx⟩ := h1
  obtain ⟨b, off, rfl, hblt, hcell⟩ : ∃ b off, a1 = some ⟨b, off, none⟩ ∧ b < w.heap.size ∧ ∀ i, i < M.length → ∃ u, w.cell? ⟨b, off + i, none⟩ = some u ∧ Ints w u (M.getD i []) := by
    rcases hx with hx | hx
    · rw [hx] at hn1; simp at hn1
    · exact hx
  have HRL := Lib.hid hrl
  have HMA := Lib.hid hma
  have HCE := Lib.hid hcell
  have HBs := Lib.hid (fun k => bit_cases3 hs0 hs1 k)
  obtain ⟨i0, hi, hzz0, hzz1, hzz2⟩ := info_parts info_ints
  obtain ⟨j0, hj, hyy0, hyy1, hyy2⟩ := info_parts info_int
  clear hrl hma hcell hx
  have hF0 := freshR_nil w
  have hB0 : Below w.heap.size w (w.alloc (.cells #[] 23)) := (Below.refl _ _).alloc (Nat.le_refl _) _
  have HF0 := Lib.hid hF0
  clear hF0
  go_enter Try.func90, Try.ntmps90
  go_wp2_with fail
  go_loopw [5, 6, 7, 8] (fun v i _ _ wr => ∃ (k : Nat) (us : List Value), k ≤ M.length ∧ i = .int .i64 k ∧ FreshR w.heap.size wr v ((memTo M.length s k).map fun a => rowL M s a.val) us ∧ Below w.heap.size w wr) (fun _ i _ _ _ => M.length - (intOf i).toNat)
  case atStart => exact ⟨0, [], Nat.zero_le _, rfl, HF0.out, hB0⟩
  case round =>
    obtain ⟨k, us, hk, rfl, hF, hB⟩ := hrel
    by_cases hlt : k < M.length
    · rcases HBs.out k with ⟨hbk, hbit⟩ | ⟨hbk, hbit⟩
      · rw [← memTo_no (n := M.length) hbit] at hF
        have HF := Lib.hid hF
        clear hF hbit
        go_wp2_with fail
        go_roundw
        case rel => exact ⟨k + 1, _, by omega, by go_num, HF.out, hB⟩
        case measure => simp [intOf]; omega
      · have hmy : memTo M.length s (k + 1) = memTo M.length s k ++ [⟨k, hlt⟩] := memTo_yes hlt hbit
        have HMY := Lib.hid hmy
        have hlen := memTo_length M.length s k
        have HF := Lib.hid hF
        clear hF hmy hbit
        obtain ⟨W1, rfl⟩ : ∃ W1, W1 = wr := ⟨_, rfl⟩
        have HB := Lib.hid hB
        have hzr := hB.size
        clear hB
        go_wp2_with fail
        go_loopw [7, 8] (fun v c wi => ∃ (j : Nat), j ≤ M.length ∧ c = .int .i64 j ∧ FreshI W1.heap.size wi v ((memTo M.length s j).map fun q => ent M k q.val) ∧ Below W1.heap.size W1 wi) (fun _ c _ => M.length - (intOf c).toNat)
        case atStart => exact ⟨0, Nat.zero_le _, rfl, freshI_nil W1, (Below.refl _ _).alloc (Nat.le_refl _) _⟩
        case round =>
          obtain ⟨j, hjj, rfl, hI, hBI⟩ := hrel
          have hzi := hBI.size
          by_cases hltj : j < M.length
          · rcases HBs.out j with ⟨hbj, hbit⟩ | ⟨hbj, hbit⟩
            · rw [← memTo_no (n := M.length) hbit] at hI
              have HI := Lib.hid hI
              clear hI hbit
              go_wp2_with fail
              go_roundw
              case rel => exact ⟨j + 1, by omega, by go_num, HI.out, hBI⟩
              case measure => simp [intOf]; omega
            · have hmy2 : memTo M.length s (j + 1) = memTo M.length s j ++ [⟨j, hltj⟩] := memTo_yes hltj hbit
              have HMY2 := Lib.hid hmy2
              have hlen2 := memTo_length M.length s j
              clear hmy2 hbit
              obtain ⟨u, c3, hIr⟩ := HCE.out k hlt
              have c3' := ((HB.out.trans (hBI.mono hzr)).cell (p := ⟨b, off + k, none⟩) hblt).trans c3
              have hrk := HRL.out k hlt
              obtain ⟨ak, ck, rfl, _, _, _, hxk⟩ := hIr
              obtain ⟨bk, ok, rfl, hbk2, hck⟩ : ∃ b off, ak = some ⟨b, off, none⟩ ∧ b < w.heap.size ∧ CellsAt w b off (M.getD k []) := by
                rcases hxk with hx | hx
                · rw [hx] at hrk; simp at hrk; omega
                · exact hx
              have c5 := ((HB.out.trans (hBI.mono hzr)).cell (p := ⟨bk, ok + j, none⟩) hbk2).trans (hck j (by omega))
              rw [hrk] at c3'
              have hent : (M.getD k []).getD j 0 = ent M k j := rfl
              rw [hent] at c5
              have how := hI.owns
              rw [List.length_map] at how
              have HOW := Lib.hid how
              have HI := Lib.hid hI
              have HBI := Lib.hid hBI
              clear how hI hBI hck hrk c3 hxk hent
              obtain ⟨z, hz⟩ : ∃ z, z = ent M k j := ⟨_, rfl⟩
              rw [← hz] at c5
              have HZ := Lib.hid hz
              clear hz
              go_wp2_with (at_builtin; refine wpList_append_lies _ rfl _ _ 23 rfl 0 2 j0 (.int .i64 0) 1 8 Try.underlying23 hj hyy0 hyy1 hyy2 rfl (by decide) u7 (memTo M.length s j).length _ rfl ((HOW.out).alloc _) _ 1 _ [.int .i64 z] rfl rfl (cell_one_new _ _ _) (by simp [Value.oneCell']) (by decide) (by unfold maxLen; omega) (by omega) (Nat.zero_le _) _ rfl ?_; intro g cap w3 hown hgrow hat hgl)
              have hpu := HI.out.push (by omega) (by simp) hown hat hgl
              have hgr := HI.out.grow HBI.out (by have := HBI.out.size; omega) hgrow
              have hsn : ((memTo M.length s j).map fun q => ent M k q.val) ++ [z] = (memTo M.length s (j + 1)).map fun q => ent M k q.val := by rw [HMY2.out, HZ.out]; simp
              rw [hsn] at hpu
              have HPU := Lib.hid hpu
              have HGR := Lib.hid hgr
              clear hpu hgr hown hgrow hat hgl hsn
              go_wp2_with fail
              go_roundw
              case rel => exact ⟨j + 1, by omega, by go_num, HPU.out, HGR.out⟩
              case measure => simp [intOf]; omega
          · obtain rfl : j = M.length := by omega
            have hlen2 := memTo_length M.length s M.length
            obtain ⟨gu, cu, hgu, hgu1, hgu2, hguo⟩ := id hI
            rw [List.length_map] at hgu
            subst hgu
            have hI' : FreshI W1.heap.size wr (.slice (some ⟨gu, 0, none⟩) (memTo M.length s M.length).length cu) (rowL M s k) := hI
            have hFw := HF.out.below hBI
            have how : wr.ownsRow 0 23 1 u5 (memTo M.length s k).length us := by
              have := hFw.own.top
              rwa [List.length_map] at this
            have HOW := Lib.hid how
            have HI := Lib.hid hI'
            have HBI := Lib.hid hBI
            clear hI hI' hBI how hFw hguo hgu1 hgu2
            go_wp2_with (at_builtin; refine wpList_append_lies _ rfl _ _ 22 rfl 0 23 i0 (.slice none 0 0) 1 24 Try.underlying22 hi hzz0 hzz1 hzz2 rfl (by decide) u5 (memTo M.length s k).length us rfl ((HOW.out).alloc _) _ 1 _ [.slice (some ⟨gu, 0, none⟩) (memTo M.length s M.length).length cu] rfl rfl (cell_one_new _ _ _) (by simp [Value.oneCell']) (by decide) (by unfold maxLen; omega) (by omega) (Nat.zero_le _) _ rfl ?_; intro g cap w3 hown hgrow hat hgl)
            have hall : Below wr.heap.size wr (wr.alloc (.cells #[.slice (some ⟨gu, 0, none⟩) (memTo M.length s M.length).length cu] 23)) := (Below.refl _ _).alloc (Nat.le_refl _) _
            have hpu := HF.out.push hzr ((HI.out).below hall) (HBI.out.trans (hall.mono hzi)) (by simpa using hown) hgrow hat hgl
            have hgr : Below w.heap.size w w3 := by
              obtain ⟨gv, cv, hv, hv1, hv2⟩ := HF.out.top
              exact ((HB.out.trans (HBI.out.mono hzr)).alloc (by omega) _).grown hgrow (by simp; omega) (fun b hb' => by rw [hv] at hb'; simp [Value.ownBlock] at hb'; omega)
            have hsn : ((memTo M.length s k).map fun a => rowL M s a.val) ++ [rowL M s k] = (memTo M.length s (k + 1)).map fun a => rowL M s a.val := by rw [HMY.out]; simp
            rw [hsn, List.length_map] at hpu
            have HPU := Lib.hid hpu
            have HGR := Lib.hid hgr
            clear hpu hgr hown hgrow hat hgl hall hsn
            go_wp2_with fail
            go_roundw
            case rel => exact ⟨k + 1, _, by omega, by go_num, HPU.out, HGR.out⟩
            case measure => simp [intOf]; omega
    · obtain rfl : k = M.length := by omega
      obtain ⟨gv, cv, hv, hv1, hv2⟩ := id hF.top
      rw [List.length_map] at hv
      subst hv
      have HF := Lib.hid hF
      have HB := Lib.hid hB
      clear hF hB
      go_wp2_with fail
      go_ret
      exact ⟨_, _, us, rfl, HF.out, HB.out⟩
end Go.Proofs.Ytoifpjmhikgjgaa.PW
