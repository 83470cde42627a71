/-
  Walks: a table's columns as rows: in the model, and one of them in the program.
-/
import Derived.Test.YtimcokealhnfhaaGTab
import Derived.Test.YtimcokealhnfhaaVNum
namespace Go.Proofs.Ytimcokealhnfhaa.PW
open Go.RowKit Go.Proofs.Ytimcokealhnfhaa
open Go.Proofs.Ytimcokealhnfhaa.PM

/-- The column j of a table of k rows. -/
def colL (T : List (List Int)) (k j : Nat) : List Int := (List.range k).map fun i => gE T i j
/-- The first l columns. -/
def turnL (T : List (List Int)) (k l : Nat) : List (List Int) := (List.range l).map fun j => colL T k j
theorem turnL_length (T : List (List Int)) (k l : Nat) : (turnL T k l).length = l := by simp [turnL]
theorem turnL_snoc (T : List (List Int)) (k l : Nat) : turnL T k (l + 1) = turnL T k l ++ [colL T k l] := by simp [turnL, List.range_succ]

set_option maxRecDepth 100000 in
set_option maxHeartbeats 4000000 in
theorem l07Turn_any (v : Value) (T : List (List Int)) (k l : Nat) (w : World) (h1 : PM.Rows w v T) (hk : T.length = k) (hk1 : 1 ≤ k) (hk5 : k ≤ 5) (hl1 : 1 ≤ l) (hl5 : l ≤ 5) (hrl : ∀ i, i < k → (T.getD i []).length = l) :
    Calls Try.prog 96 #[v] w fun e w' => ∃ g cap us, e = .returned (.slice (some ⟨g, 0, none⟩) l cap) ∧ FreshR w.heap.size w' (.slice (some ⟨g, 0, none⟩) l cap) (turnL T k l) us ∧ Below w.heap.size w w' := by
  obtain ⟨b, off, c, rfl, hA⟩ := tab_at h1 (by omega) hl1 (fun i hi => hrl i (by omega))
  rw [hk] at hA ⊢
  have HA := Lib.hid hA
  obtain ⟨i0, hi, hzz0, hzz1, hzz2⟩ := info_parts info_ints
  obtain ⟨j0, hj, hyy0, hyy1, hyy2⟩ := info_parts info_int
  have hF0 := freshR_nil w
  have hB0 : Below w.heap.size w (w.alloc (.cells #[] 23)) := (Below.refl _ _).alloc (Nat.le_refl _) _
  have HF0 := Lib.hid hF0
  clear hF0 hA hrl hk h1
  go_enter Try.func96, Try.ntmps96
  go_wp2_with fail
  go_loopw [3, 4, 5, 6] (fun v i _ _ wr => ∃ (n : Nat) (us : List Value), n ≤ l ∧ i = .int .i64 n ∧ FreshR w.heap.size wr v (turnL T k n) us ∧ Below w.heap.size w wr) (fun _ i _ _ _ => l - (intOf i).toNat)
  case atStart => exact ⟨0, [], Nat.zero_le _, rfl, HF0.out, hB0⟩
  case round =>
    obtain ⟨n, us, hn, rfl, hF, hB⟩ := hrel
    obtain ⟨r9, ro9, rd9, t9, _⟩ := HA.out wr hB 0 (by omega)
    simp only [Nat.add_zero] at t9
    by_cases hlt : n < l
    · have HF := Lib.hid hF
      clear hF
      obtain ⟨W1, rfl⟩ : ∃ W1, W1 = wr := ⟨_, rfl⟩
      have HB := Lib.hid hB
      have hzr := hB.size
      clear hB
      go_wp2_with fail
      clear t9
      go_loopw [5, 6] (fun v c wi => ∃ (j : Nat), j ≤ k ∧ c = .int .i64 j ∧ FreshI W1.heap.size wi v ((List.range j).map fun i => gE T i n) ∧ Below W1.heap.size W1 wi) (fun _ c _ => k - (intOf c).toNat)
      case atStart => exact ⟨0, Nat.zero_le _, rfl, freshI_nil W1, (Below.refl _ _).alloc (Nat.le_refl _) _⟩
      case round =>
        obtain ⟨j, hjj, rfl, hI, hBI⟩ := hrel
        have hzi := hBI.size
        by_cases hltj : j < k
        · obtain ⟨r, ro, rd, t0, y0⟩ := HA.out wr (HB.out.trans (hBI.mono hzr)) j hltj
          have r0 := y0 n hlt
          obtain ⟨x, hx⟩ : ∃ x, x = gE T j n := ⟨_, rfl⟩
          rw [← hx] at r0
          have HX := Lib.hid hx
          have how := hI.owns
          rw [row_length] at how
          have HOW := Lib.hid how
          have HI := Lib.hid hI
          have HBI := Lib.hid hBI
          have HSN := Lib.hid (rows_snoc j (fun i => gE T i n))
          clear how hI hBI y0 hx
          go_wp2_with (at_builtin; refine wpList_append_lies _ rfl _ _ 23 rfl 0 2 j0 (.int .i64 0) 1 8 Try.underlying23 hj hyy0 hyy1 hyy2 rfl (by decide) u5 j _ rfl ((HOW.out).alloc _) _ 1 _ [.int .i64 x] rfl rfl (cell_one_new _ _ _) (by simp [Value.oneCell']) (by decide) (by unfold maxLen; omega) (by omega) (Nat.zero_le _) _ rfl ?_; intro g cap w3 hown hgrow hat hgl)
          have hpu := HI.out.push (by omega) (by simp) hown hat hgl
          have hgr := HI.out.grow HBI.out (by have := HBI.out.size; omega) hgrow
          rw [HX.out, ← HSN.out] at hpu
          have HPU := Lib.hid hpu
          have HGR := Lib.hid hgr
          clear hpu hgr hown hgrow hat hgl
          go_wp2_with fail
          go_roundw
          case rel => exact ⟨j + 1, by omega, by go_num, HPU.out, HGR.out⟩
          case measure => simp [intOf]; omega
        · have hjk : j = k := by omega
          rw [hjk] at hI
          clear hjk
          obtain ⟨gu, cu, hgu, hgu1, hgu2, hguo⟩ := id hI
          rw [row_length] at hgu
          subst hgu
          have hI' : FreshI W1.heap.size wr (.slice (some ⟨gu, 0, none⟩) k cu) (colL T k n) := hI
          have hFw := HF.out.below hBI
          have how : wr.ownsRow 0 23 1 u3 n us := by
            have := hFw.own.top
            rwa [turnL_length] at this
          have HOW := Lib.hid how
          have HI := Lib.hid hI'
          have HBI := Lib.hid hBI
          clear hI hBI how hFw hguo hgu1 hgu2 hI'
          go_wp2_with (at_builtin; refine wpList_append_lies _ rfl _ _ 22 rfl 0 23 i0 (.slice none 0 0) 1 24 Try.underlying22 hi hzz0 hzz1 hzz2 rfl (by decide) u3 n us rfl ((HOW.out).alloc _) _ 1 _ [.slice (some ⟨gu, 0, none⟩) k cu] rfl rfl (cell_one_new _ _ _) (by simp [Value.oneCell']) (by decide) (by unfold maxLen; omega) (by omega) (Nat.zero_le _) _ rfl ?_; intro g cap w3 hown hgrow hat hgl)
          have hall : Below wr.heap.size wr (wr.alloc (.cells #[.slice (some ⟨gu, 0, none⟩) k cu] 23)) := (Below.refl _ _).alloc (Nat.le_refl _) _
          have hpu := HF.out.push hzr ((HI.out).below hall) (HBI.out.trans (hall.mono hzi)) (by rw [turnL_length]; simpa using hown) hgrow hat hgl
          have hgr : Below w.heap.size w w3 := by
            obtain ⟨gv, cv, hv, hv1, hv2⟩ := HF.out.top
            exact ((HB.out.trans (HBI.out.mono hzr)).alloc (by omega) _).grown hgrow (by simp; omega) (fun b hb' => by rw [hv] at hb'; simp [Value.ownBlock] at hb'; omega)
          rw [← turnL_snoc, turnL_length] at hpu
          have HPU := Lib.hid hpu
          have HGR := Lib.hid hgr
          clear hpu hgr hown hgrow hat hgl hall
          go_wp2_with fail
          go_roundw
          case rel => exact ⟨n + 1, _, by omega, by go_num, HPU.out, HGR.out⟩
          case measure => simp [intOf]; omega
    · have hnl : n = l := by omega
      rw [hnl] at hF
      obtain ⟨gv, cv, hv, hv1, hv2⟩ := id hF.top
      rw [turnL_length] at hv
      subst hv
      have HF := Lib.hid hF
      have HB := Lib.hid hB
      clear hF hB
      go_wp2_with fail
      go_ret
      exact ⟨_, _, us, rfl, HF.out, HB.out⟩

set_option maxRecDepth 100000 in
set_option maxHeartbeats 4000000 in
theorem columnAt_any (v : Value) (T : List (List Int)) (k l j : Nat) (w : World) (h1 : PM.Rows w v T) (hk : T.length = k) (hk1 : 1 ≤ k) (hk5 : k ≤ 5) (hl1 : 1 ≤ l) (_hl5 : l ≤ 5) (hrl : ∀ i, i < k → (T.getD i []).length = l) (hj : j < l) :
    Calls Try.prog 97 #[v, .int .i64 j] w fun e w' => ∃ g, e = .returned (.slice (some ⟨g, 0, none⟩) k k) ∧ FreshI w.heap.size w' (.slice (some ⟨g, 0, none⟩) k k) (colL T k j) ∧ Below w.heap.size w w' := by
  obtain ⟨b, off, c, rfl, hA⟩ := tab_at h1 (by omega) hl1 (fun i hi => hrl i (by omega))
  rw [hk] at hA ⊢
  have HA := Lib.hid hA
  have hmk := run_make_row' (P := Try.prog) 23 2 (.int .i64 0) 8 Try.underlying23 info_int rfl .i64 .i64 k (by omega) (by omega)
  have HZ := Lib.hid (zeros_fresh w k (by unfold maxLen; omega))
  have hA0 : Below w.heap.size w (w.alloc (.cells (madeCells #[.int .i64 0] k) 2)) := (Below.refl _ _).alloc (Nat.le_refl _) _
  obtain ⟨F, hF⟩ : ∃ F : Nat → Int, F = fun i => gE T i j := ⟨_, rfl⟩
  have hall : (List.range k).map F = colL T k j := by rw [hF]; rfl
  have HALL := Lib.hid hall
  have HF := Lib.hid (fun i => show F i = gE T i j by rw [hF])
  clear h1 hk hrl hA hF hall
  obtain ⟨g, hg⟩ : ∃ g, g = w.heap.size := ⟨_, rfl⟩
  go_enter Try.func97, Try.ntmps97
  go_wp2_with fail
  rw [← hg]
  rw [← hg] at HZ
  have hgw : w.heap.size ≤ g := by omega
  clear hg
  go_loopw [6, 7, 13] (fun _ _ i wr => ∃ n : Nat, n ≤ k ∧ i = .int .i64 n ∧ FreshI g wr (.slice (some ⟨g, 0, none⟩) k k) (filN k n F) ∧ Below w.heap.size w wr) (fun _ _ i _ => k - (intOf i).toNat)
  case atStart => exact ⟨0, Nat.zero_le _, rfl, by rw [filN_zero]; exact HZ.out, hA0⟩
  case round =>
    obtain ⟨n, hn, rfl, hO, hB⟩ := hrel
    clear hmk
    by_cases hlt : n < k
    · obtain ⟨r, ro, rd, t0, y0⟩ := HA.out wr hB n hlt
      have r0 := y0 j hj
      rw [← HF.out n] at r0
      obtain ⟨_, _, hvv, _, hz4, hoo⟩ := id hO
      have hgz : g < wr.heap.size := by simp at hvv; omega
      clear hvv hz4
      have hll : k = (filN k n F).length := by simp [filN]
      have c6 := own_cellN hoo hll hlt
      have c7 := own_frozenN hoo hll n
      have hst := hO.setN n (F n)
      have hbl := hB.setCell (p := ⟨g, n, none⟩) (by show _ ≤ g; omega) (.int .i64 (F n))
      rw [filN_set] at hst
      have HST := Lib.hid hst
      have HBL := Lib.hid hbl
      clear hst hbl hll hoo hO hB y0
      generalize F n = x at *
      generalize (filN k n F).getD n 0 = y at *
      go_wp2_with fail
      go_roundw
      case rel => exact ⟨n + 1, by omega, by go_num, HST.out, HBL.out⟩
      case measure => simp [intOf]; omega
    · have hnk : n = k := by omega
      rw [hnk, filN_all, HALL.out] at hO
      have HO := Lib.hid (hO.mono hgw)
      have HB := Lib.hid hB
      clear hO hB
      go_wp2_with fail
      go_ret
      exact ⟨_, rfl, HO.out, HB.out⟩
end Go.Proofs.Ytimcokealhnfhaa.PW
