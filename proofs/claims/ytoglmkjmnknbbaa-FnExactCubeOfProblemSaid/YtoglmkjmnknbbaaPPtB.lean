/-
  Walks: the determinants of the rule of Cramer, in the model.
-/
import Derived.Test.YtoglmkjmnknbbaaPPtA
import Derived.Test.YtoglmkjmnknbbaaPFrT
namespace Go.Proofs.Ytoglmkjmnknbbaa.PW
open Go.RowKit Go.Proofs.Ytoglmkjmnknbbaa
open Go.Proofs.Ytoglmkjmnknbbaa.PM Go.Proofs.Ytoglmkjmnknbbaa.PX

/-- Rows as they lie. -/
theorem rows_at {w : World} {v : Value} {n : Nat} {e : Nat → Nat → Int} (hv : PM.Rows w v (tab n e)) (hn1 : 1 ≤ n) : ∃ b off c, v = .slice (some ⟨b, off, none⟩) n c ∧ b < w.heap.size ∧
    ∀ i, i < n → ∃ bi oi ci, w.cell? ⟨b, off + i, none⟩ = some (.slice (some ⟨bi, oi, none⟩) n ci) ∧ n ≤ ci ∧ bi < w.heap.size ∧ CellsAt w bi oi ((List.range n).map (e i)) := by
  obtain ⟨a1, c1, rfl, _, _, hx⟩ := hv
  have htl := tab_length n e
  obtain ⟨b, off, rfl, hblt, hcell⟩ : ∃ b off, a1 = some ⟨b, off, none⟩ ∧ b < w.heap.size ∧ ∀ i, i < n → ∃ u, w.cell? ⟨b, off + i, none⟩ = some u ∧ Ints w u ((List.range n).map (e i)) := by
    rcases hx with hx | ⟨b, off, h1, h2, h3⟩
    · rw [hx] at htl; simp at htl; omega
    · exact ⟨b, off, h1, h2, fun i hi => by rw [← tab_row _ _ _ hi]; exact h3 i (by omega)⟩
  refine ⟨b, off, c1, by rw [htl], hblt, fun i hi => ?_⟩
  obtain ⟨u, hu, ai, ci, hsh, hci, _, _, hxx⟩ := hcell i hi
  rcases hxx with hxx | ⟨bi, oi, rfl, hbi, hce⟩
  · have := congrArg List.length hxx; rw [row_length, List.length_nil] at this; omega
  · rw [row_length] at hsh hci
    exact ⟨bi, oi, ci, by rw [hu, hsh], hci, hbi, hce⟩
theorem setCol_bd {e : Nat → Nat → Int} {Q : List Int} (hb : ∀ i j, Bd 100 (e i j)) (hbq : ∀ j, Bd 100 (Q.getD j 0)) (k i j : Nat) : Bd 100 (setCol e k Q i j) := by
  unfold setCol
  split
  · exact hbq i
  · exact hb i j

set_option maxRecDepth 100000 in
set_option maxHeartbeats 2000000 in
theorem l01Solve_any (v q : Value) (n : Nat) (e : Nat → Nat → Int) (Q : List Int) (w : World) (hv : PM.Rows w v (tab n e)) (hq : Ints w q Q) (hQ : Q.length = n) (hn1 : 1 ≤ n) (hn5 : n ≤ 5) (hb : ∀ i j, Bd 100 (e i j)) (hbq : ∀ j, Bd 100 (Q.getD j 0)) :
    Calls Try.prog 127 #[v, q] w fun r w' => ∃ g c, r = .returned (.tuple #[.slice (some ⟨g, 0, none⟩) n c, .int .i64 (dt n e)]) ∧ FreshI w.heap.size w' (.slice (some ⟨g, 0, none⟩) n c) ((List.range n).map fun j => dt n (setCol e j Q)) ∧ Below w.heap.size w w' := by
  have hdet := fun (w' : World) (h : Below w.heap.size w w') => l01Det_any n hn5 v w' e (hv.below h) hb
  have hsol := fun (k : Nat) (u : Value) (w' : World) (h : PM.Rows w' u (tab n (setCol e k Q))) => l01Det_any n hn5 u w' (setCol e k Q) h (setCol_bd hb hbq k)
  have hi64 : ∀ k, ∀ i, i < (tab n (setCol e k Q)).length → ∀ x ∈ (tab n (setCol e k Q)).getD i [], I64 x := fun k => tab_I64 (B := 100) (by decide) (fun i j _ _ => setCol_bd hb hbq k i j)
  obtain ⟨b, off, c1, rfl, hblt, hrow⟩ := rows_at hv hn1
  obtain ⟨bq, oq, c2, rfl, hbqlt, hcq⟩ := ints_at hq hQ hn1
  have HROW := Lib.hid hrow
  have HCQ := Lib.hid hcq
  have HDET := Lib.hid hdet
  have HSOL := Lib.hid hsol
  have HI := Lib.hid hi64
  have HQ := Lib.hid hQ
  obtain ⟨i0, hi, hzz0, hzz1, hzz2⟩ := info_parts info_ints
  obtain ⟨j0, hj, hyy0, hyy1, hyy2⟩ := info_parts info_int
  clear hv hq hQ hb hbq hrow hcq hdet hsol hi64
  go_enter Try.func127, Try.ntmps127
  go_wp2_with fail
  go_loopw [6, 7, 8, 9, 10] (fun v i _ _ _ wr => ∃ k : Nat, k ≤ n ∧ i = .int .i64 k ∧ FreshI w.heap.size wr v ((List.range k).map fun j => dt n (setCol e j Q)) ∧ Below w.heap.size w wr) (fun _ i _ _ _ _ => n - (intOf i).toNat)
  case atStart => exact ⟨0, Nat.zero_le _, rfl, freshI_nil w, (Below.refl _ _).alloc (Nat.le_refl _) _⟩
  case round =>
    obtain ⟨k, hk, rfl, hO, hB⟩ := hrel
    by_cases hlt : k < n
    · have hzw := hB.size
      have HO := Lib.hid hO
      have HB := Lib.hid hB
      obtain ⟨W1, rfl⟩ : ∃ W1, W1 = wr := ⟨_, rfl⟩
      clear hO hB
      go_wp2_with fail
      go_loopw [8, 9, 10] (fun v i _ wr => ∃ (j : Nat) (us : List Value), j ≤ n ∧ i = .int .i64 j ∧ FreshR W1.heap.size wr v ((List.range j).map fun a => (List.range n).map (setCol e k Q a)) us ∧ Below W1.heap.size W1 wr) (fun _ i _ _ => n - (intOf i).toNat)
      case atStart => exact ⟨0, [], Nat.zero_le _, rfl, freshR_nil W1, (Below.refl _ _).alloc (Nat.le_refl _) _⟩
      case round =>
        obtain ⟨j, us, hjn, rfl, hR, hB1⟩ := hrel
        by_cases hltj : j < n
        · obtain ⟨bi, oi, ci, ti, hci, hbi, hcei⟩ := HROW.out j hltj
          have hBww := HB.out.trans (hB1.mono hzw)
          have tiw := (hBww.cell (p := ⟨b, off + j, none⟩) hblt).trans ti
          have hzr := hB1.size
          have hbw' := hBww.size
          have hown := l01Own_at bi oi n ci ((List.range n).map (e j)) wr (row_length _ _) (by omega) (fun i hi => (hBww.cell (p := ⟨bi, oi + i, none⟩) hbi).trans (hcei i hi)) (by rw [row_length]; omega)
          have HOWN := Lib.hid hown
          have cq := (hBww.cell (p := ⟨bq, oq + j, none⟩) hbqlt).trans (HCQ.out j (by have := HQ.out; omega))
          have hbqw : bq < wr.heap.size := by omega
          have HR := Lib.hid hR
          have HB1 := Lib.hid hB1
          clear hcei hown hR hB1 hBww ti
          go_wp2_with fail
          refine HOWN.out.mono ?_
          rintro r w2 ⟨u2, rfl, hfu, hb2⟩
          obtain ⟨g2, cap2, rfl, hg21, hg22⟩ := hfu.shape (row_length n (e j))
          have cq2 := (hb2.cell (p := ⟨bq, oq + j, none⟩) hbqw).trans cq
          obtain ⟨_, _, hvv, _, _, hoo⟩ := id hfu
          clear hvv
          have c6 := own_cellN hoo (row_length _ _).symm hlt
          have c7 := own_frozenN hoo (row_length _ _).symm k
          have hset := hfu.set k (Q.getD j 0)
          rw [row_set] at hset
          have hbset : Below wr.heap.size wr (w2.setCell ⟨g2, k, none⟩ (.int .i64 (Q.getD j 0))) := hb2.setCell hg21 _
          have how := (HR.out.below hbset).own.top
          rw [show ((List.range j).map fun a => (List.range n).map (setCol e k Q a)).length = j by simp] at how
          have HOW := Lib.hid how
          have HSET : Hid (FreshI wr.heap.size (w2.setCell ⟨g2, k, none⟩ (.int .i64 (Q.getD j 0))) (.slice (some ⟨g2, 0, none⟩) n cap2) ((List.range n).map (setCol e k Q j))) := Lib.hid hset
          have HBS := Lib.hid hbset
          clear hset hbset how hoo hfu hb2 cq tiw
          generalize Q.getD j 0 = x at *
          generalize ((List.range n).map (e j)).getD k 0 = y at *
          go_wp2_with (at_builtin; refine wpList_append_lies _ rfl _ _ 22 rfl 0 23 i0 (.slice none 0 0) 1 24 Try.underlying22 hi hzz0 hzz1 hzz2 rfl (by decide) u8 j us rfl ((HOW.out).alloc _) _ 1 _ [.slice (some ⟨g2, 0, none⟩) n cap2] rfl rfl (cell_one_at (by simp)) (by simp [Value.oneCell']) (by decide) (by unfold maxLen; omega) (by omega) (Nat.zero_le _) _ rfl ?_; intro g cap w3 hown hgrow hat hgl)
          have hl1 : ((List.range j).map fun a => (List.range n).map (setCol e k Q a)).length = j := by simp
          have ha : Below (w2.setCell ⟨g2, k, none⟩ (.int .i64 x)).heap.size (w2.setCell ⟨g2, k, none⟩ (.int .i64 x)) ((w2.setCell ⟨g2, k, none⟩ (.int .i64 x)).alloc (.cells #[.slice (some ⟨g2, 0, none⟩) n cap2] 23)) := (Below.refl _ _).alloc (Nat.le_refl _) _
          have hka := HBS.out.trans (ha.mono HBS.out.size)
          have hpu := HR.out.push hzr (HSET.out.below ha) hka (C := 0) (by rw [hl1]; exact hown) hgrow hat hgl
          rw [hl1, ← tab_snoc] at hpu
          have hgr : Below W1.heap.size W1 w3 := by
            obtain ⟨gv, cv, hv, hv1, hv2⟩ := HR.out.top
            exact (HB1.out.trans (hka.mono hzr)).grown hgrow (by have := hka.size; omega) (fun b hb' => by rw [hv] at hb'; simp [Value.ownBlock] at hb'; omega)
          have HPU := Lib.hid hpu
          have HGR := Lib.hid hgr
          clear hpu hgr hown hgrow hat hgl ha hka hl1
          go_wp2_with fail
          go_roundw
          case rel => exact ⟨j + 1, _, by omega, by go_num, HPU.out, HGR.out⟩
          case measure => simp [intOf]; omega
        · obtain rfl : j = n := by omega
          have hR' : FreshR W1.heap.size wr u8 (tab j (setCol e k Q)) us := hR
          have hrr := hR'.own.rows' (HI.out k)
          have hsol := HSOL.out k u8 wr hrr
          obtain ⟨gv, cv, hv, _, _⟩ := hR'.top
          rw [tab_length] at hv
          subst hv
          have HS := Lib.hid hsol
          have hzr := hB1.size
          have HOr := Lib.hid (HO.out.below hB1)
          have HBr := Lib.hid (HB.out.trans (hB1.mono hzw))
          clear hR hR' hrr hsol hB1
          go_wp2_with fail
          refine HS.out.mono ?_
          rintro r w2 ⟨rfl, hb2⟩
          have hO2 := HOr.out.below hb2
          have hB2 := HBr.out.trans (hb2.mono HBr.out.size)
          have hz2 := hb2.size
          have how := hO2.owns
          rw [row_length] at how
          have HOW := Lib.hid how
          have HO2 := Lib.hid hO2
          have HB2 := Lib.hid hB2
          clear hO2 hB2 how hb2
          generalize hD : dt j (setCol e k Q) = D at *
          have HD := Lib.hid hD
          clear hD
          go_wp2_with (at_builtin; refine wpList_append_lies _ rfl _ _ 23 rfl 0 2 j0 (.int .i64 0) 1 8 Try.underlying23 hj hyy0 hyy1 hyy2 rfl (by decide) u6 k _ rfl ((HOW.out).alloc _) _ 1 _ [.int .i64 D] rfl rfl (cell_one_new _ _ _) (by simp [Value.oneCell']) (by decide) (by unfold maxLen; omega) (by omega) (Nat.zero_le _) _ rfl ?_; intro g cap w3 hown hgrow hat hgl)
          have hpu := HO2.out.push (by have := HB2.out.size; omega) (by simp) hown hat hgl
          have hgr := HO2.out.grow HB2.out (by have := HB2.out.size; omega) hgrow
          rw [← HD.out, ← rows_snoc k (fun q => dt j (setCol e q Q))] at hpu
          have HPU := Lib.hid hpu
          have HGR := Lib.hid hgr
          clear hpu hgr hown hgrow hat hgl
          go_wp2_with fail
          go_roundw
          case rel => exact ⟨k + 1, by omega, by go_num, HPU.out, HGR.out⟩
          case measure => simp [intOf]; omega
    · obtain rfl : k = n := by omega
      obtain ⟨g, c, rfl, _, _⟩ := hO.shape (row_length _ _)
      have HO := Lib.hid hO
      have HDW := Lib.hid (HDET.out wr hB)
      have HB := Lib.hid hB
      clear hO hB
      go_wp2_with fail
      refine HDW.out.mono ?_
      rintro r w2 ⟨rfl, hb2⟩
      go_wp2_with fail
      go_ret2
      exact ⟨_, _, rfl, HO.out.below hb2, HB.out.trans (hb2.mono HB.out.size)⟩
end Go.Proofs.Ytoglmkjmnknbbaa.PW
