/-
  The best replies: plain mathematics, and their walk in the program.
  Walks: the best replies of a player, in the model (written by grep_.py).
-/
import Derived.Test.YtimcokealhnfhaaGPay
import Derived.Test.YtimcokealhnfhaaPAnsR
import Derived.Test.YtimcokealhnfhaaVNum
namespace Go.Proofs.Ytimcokealhnfhaa.PW
open Go.RowKit Go.Proofs.Ytimcokealhnfhaa
open Go.Proofs.Ytimcokealhnfhaa.PM

/-- The first k places at which r stands. -/
def repTo (O : List Int) (r : Int) : Nat → List Int
  | 0 => []
  | k + 1 => if O.getD k 0 = r then repTo O r k ++ [(k : Int)] else repTo O r k
theorem repTo_yes {O : List Int} {r : Int} {k : Nat} (h : O.getD k 0 = r) : repTo O r (k + 1) = repTo O r k ++ [(k : Int)] := by rw [repTo, if_pos h]
theorem repTo_no {O : List Int} {r : Int} {k : Nat} (h : ¬ O.getD k 0 = r) : repTo O r (k + 1) = repTo O r k := by rw [repTo, if_neg h]
theorem repTo_len (O : List Int) (r : Int) : ∀ k, (repTo O r k).length ≤ k
  | 0 => Nat.le_refl _
  | k + 1 => by
    have := repTo_len O r k
    rw [repTo]
    split
    · rw [List.length_append]; simp; omega
    · omega
theorem repTo_in (O : List Int) (r : Int) : ∀ k, ∀ x ∈ repTo O r k, 0 ≤ x ∧ x < (k : Int)
  | 0, x, h => (List.not_mem_nil h).elim
  | k + 1, x, h => by
    rw [repTo] at h
    split at h
    · rcases List.mem_append.1 h with h | h
      · have := repTo_in O r k x h; omega
      · simp at h; omega
    · have := repTo_in O r k x h; omega
/-- The greatest of the first k numbers and 0. -/
def bestTo (O : List Int) : Nat → Int
  | 0 => 0
  | k + 1 => max (bestTo O k) (O.getD k 0)
theorem bestTo_is {O : List Int} (hp : ∀ j, j < O.length → 0 ≤ O.getD j 0) : ∀ k, k ≤ O.length → 0 ≤ bestTo O k ∧ (∀ j, j < k → O.getD j 0 ≤ bestTo O k) ∧ (0 < k → ∃ j, j < k ∧ bestTo O k = O.getD j 0)
  | 0, _ => ⟨Int.le_refl _, fun j hj => absurd hj (Nat.not_lt_zero _), fun h => absurd h (Nat.lt_irrefl _)⟩
  | k + 1, h => by
    obtain ⟨h0, h1, h2⟩ := bestTo_is hp k (by omega)
    have hk := hp k (by omega)
    rw [bestTo]
    refine ⟨by omega, fun j hj => ?_, fun _ => ?_⟩
    · by_cases e : j = k
      · subst e; omega
      · have := h1 j (by omega); omega
    · by_cases e : bestTo O k ≤ O.getD k 0
      · exact ⟨k, by omega, by omega⟩
      · rcases Nat.eq_zero_or_pos k with rfl | hk0
        · have h00 : bestTo O 0 = 0 := rfl
          omega
        · obtain ⟨j, hj, e2⟩ := h2 hk0
          exact ⟨j, by omega, by omega⟩
def repL (O : List Int) : List Int := repTo O (bestTo O O.length) O.length

/-- A list of the call's own memory, or none. -/
def OrI (B : Nat) (w : World) (v : Value) (xs : List Int) : Prop := w.ownsRow B 2 1 v xs.length (xs.map (Value.int .i64))
theorem orI_nil (B : Nat) (w : World) : OrI B w (.slice none 0 0) [] := World.ownsRow_nil _ _ _ _
theorem OrI.at_ {B : Nat} {w : World} {v : Value} {xs : List Int} (h : OrI B w v xs) : ∀ b, v.ownBlock = some b → B ≤ b := by
  rcases h.2 with ⟨rfl, _⟩ | ⟨g, cap, cur, rfl, hb, _⟩
  · intro b hb; simp [Value.ownBlock] at hb
  · intro b hb'; simp [Value.ownBlock] at hb'; omega
theorem OrI.lt {B : Nat} {w : World} {v : Value} {xs : List Int} (h : OrI B w v xs) : ∀ b, v.ownBlock = some b → b < w.heap.size := by
  rcases h.2 with ⟨rfl, _⟩ | ⟨g, cap, cur, rfl, hb, hg, _⟩
  · intro b hb; simp [Value.ownBlock] at hb
  · intro b hb'
    simp [Value.ownBlock] at hb'
    subst hb'
    rcases Nat.lt_or_ge g w.heap.size with h' | h'
    · exact h'
    · rw [Array.getElem?_eq_none h'] at hg; cases hg
theorem OrI.push {B g cap n : Nat} {w4 : World} {xs : List Int} {x : Int} (hn : n = xs.length)
    (hown : w4.ownsRow B 2 1 (.slice (some ⟨g, 0, none⟩) (n + 1) cap) (n + 1) (xs.map (Value.int .i64) ++ [.int .i64 x])) : OrI B w4 (.slice (some ⟨g, 0, none⟩) (n + 1) cap) (xs ++ [x]) := by
  subst hn
  unfold OrI
  simpa using hown
theorem OrI.grow {B : Nat} {W wr w4 : World} {v : Value} {xs : List Int} {o : Obj} (h : OrI B wr v xs) (hb : Below B W wr) (hB : B ≤ wr.heap.size) (hgrow : (wr.alloc o).grownBy w4 v.ownBlock) : Below B W w4 :=
  (hb.alloc hB o).grown hgrow (by simp; omega) (fun b hb' => h.at_ b hb')
theorem OrI.mono {B C : Nat} {w : World} {v : Value} {xs : List Int} (h : OrI B w v xs) (hC : C ≤ B) : OrI C w v xs := by
  refine ⟨h.1, ?_⟩
  rcases h.2 with h2 | ⟨g, cap, cur, hv, hb, r⟩
  · exact .inl h2
  · exact .inr ⟨g, cap, cur, hv, Nat.le_trans hC hb, r⟩
theorem OrI.rng {B : Nat} {w : World} {v : Value} {xs : List Int} (h : OrI B w v xs) : RngI B w.heap.size w v xs :=
  ⟨own_base' h, fun b hb => ⟨h.at_ b hb, h.lt b hb⟩⟩

set_option maxRecDepth 100000 in
set_option maxHeartbeats 2000000 in
theorem bestReplies_any (iv sv : Value) (P : List Int) (w : World) (hn1 : 1 ≤ P.length) (hn5 : P.length ≤ 5) (hP : ∀ j, j < P.length → 0 ≤ P.getD j 0) (hPI : ∀ x ∈ P, I64 x)
    (hpay : Calls Try.prog 94 #[iv, sv] w fun e w' => ∃ g, e = .returned (.slice (some ⟨g, 0, none⟩) P.length P.length) ∧ FreshI w.heap.size w' (.slice (some ⟨g, 0, none⟩) P.length P.length) P ∧ Below w.heap.size w w') :
    Calls Try.prog 88 #[iv, sv] w fun e w' => ∃ v, e = .returned v ∧ OrI w.heap.size w' v (repL P) ∧ Below w.heap.size w w' := by
  obtain ⟨j0, hj, hyy0, hyy1, hyy2⟩ := info_parts info_int
  have HPAY := Lib.hid hpay
  have hbi := bestTo_is hP P.length (Nat.le_refl _)
  unfold repL
  obtain ⟨r, hr⟩ : ∃ r, r = bestTo P P.length := ⟨_, rfl⟩
  rw [← hr] at hbi ⊢
  have HMX := Lib.hid (show (∀ j, j < P.length → P.getD j 0 ≤ r) ∧ ∃ j, j < P.length ∧ r = P.getD j 0 from ⟨hbi.2.1, hbi.2.2 hn1⟩)
  have HPI := Lib.hid hPI
  clear hpay hbi hr hP hPI
  go_enter Try.func88, Try.ntmps88
  go_wp2_with fail
  refine HPAY.out.mono ?_
  rintro e w1 ⟨g, rfl, hF, hb1⟩
  have HMC := Lib.hid (listMax_is _ P w1 (OwnI.ints (show OwnI w1 _ P from hF.owns) HPI.out) hn1 r HMX.out)
  obtain ⟨_, _, hvv, hgw, hz5, hoo⟩ := id hF
  have hg1 : g < w1.heap.size := by simp at hvv; omega
  have hce : ∀ j, j < P.length → w1.cell? ⟨g, j, none⟩ = some (.int .i64 (P.getD j 0)) := fun j hj => by
    rw [own_cellN hoo rfl hj]
  have HCE := Lib.hid hce
  have HB1 := Lib.hid hb1
  clear hF hvv hgw hz5 hoo hce hb1 HPAY HMX
  go_wp2_with fail
  refine HMC.out.mono ?_
  rintro e w2 ⟨rfl, rfl⟩
  go_wp2_with fail
  go_loopw [7, 8, 9, 17] (fun v _ _ i wr => ∃ k : Nat, k ≤ P.length ∧ i = .int .i64 k ∧ OrI w1.heap.size wr v (repTo P r k) ∧ Below w1.heap.size w1 wr) (fun _ _ _ i _ => P.length - (intOf i).toNat)
  case atStart => exact ⟨0, Nat.zero_le _, rfl, orI_nil _ _, Below.refl _ _⟩
  case round =>
    obtain ⟨k, hk, rfl, hO, hB⟩ := hrel
    by_cases hlt : k < P.length
    · have t1 := (hB.cell (p := ⟨g, k, none⟩) hg1).trans (HCE.out k hlt)
      have hlen := repTo_len P r k
      have HO := Lib.hid hO
      have HB := Lib.hid hB
      have hzz := hB.size
      obtain ⟨n, hn⟩ : ∃ n, n = (repTo P r k).length := ⟨_, rfl⟩
      have how := hO
      unfold OrI at how
      rw [← hn] at how hlen
      have HOW := Lib.hid how
      have HN := Lib.hid hn
      obtain ⟨x, hx⟩ : ∃ x, x = P.getD k 0 := ⟨_, rfl⟩
      rw [← hx] at t1
      have HX := Lib.hid hx
      clear how hO hB hn hx
      by_cases he : x = r
      · have HS := Lib.hid (repTo_yes (show P.getD k 0 = r by rw [← HX.out]; exact he))
        have hxr : (x == r) = true := by simp [he]
        clear he
        go_wp2_with (at_builtin; refine wpList_append_lies _ rfl _ _ 23 rfl w1.heap.size 2 j0 (.int .i64 0) 1 8 Try.underlying23 hj hyy0 hyy1 hyy2 rfl (by decide) u7 n _ rfl ((HOW.out).alloc _) _ 1 _ [.int .i64 k] rfl rfl (cell_one_new _ _ _) (by simp [Value.oneCell']) (by decide) (by unfold maxLen; omega) (by omega) (by simp; omega) _ rfl ?_; intro g' cap w3 hown hgrow hat hgl)
        have hpu := OrI.push HN.out hown
        have hgr := HO.out.grow HB.out HB.out.size hgrow
        rw [← HS.out] at hpu
        have HPU := Lib.hid hpu
        have HGR := Lib.hid hgr
        clear hpu hgr hown hgrow hat hgl
        go_wp2_with fail
        go_roundw
        case rel => exact ⟨k + 1, by omega, by go_num, HPU.out, HGR.out⟩
        case measure => simp [intOf]; omega
      · have hs := repTo_no (show ¬ P.getD k 0 = r by rw [← HX.out]; exact he)
        have hxr : (x == r) = false := by simp [he]
        have HI2 : Hid (OrI w1.heap.size wr u7 (repTo P r (k + 1))) := Lib.hid (by rw [hs]; exact HO.out)
        clear hs
        go_wp2_with fail
        go_roundw
        case rel => exact ⟨k + 1, by omega, by go_num, HI2.out, HB.out⟩
        case measure => simp [intOf]; omega
    · obtain rfl : k = P.length := by omega
      have HO := Lib.hid hO
      have HB := Lib.hid hB
      clear hO hB
      go_wp2_with fail
      go_ret
      refine ⟨_, rfl, ?_, HB1.out.trans (HB.out.mono HB1.out.size)⟩
      exact HO.out.mono HB1.out.size
end Go.Proofs.Ytimcokealhnfhaa.PW
namespace Go.Proofs.Ytimcokealhnfhaa.PW
open Go.RowKit Go.Proofs.Ytimcokealhnfhaa
open Go.Proofs.Ytimcokealhnfhaa.PM

theorem range_snocG (F : Nat → Int) (k : Nat) : (List.range k).map F ++ [F k] = (List.range (k + 1)).map F := by simp [List.range_succ]

set_option maxRecDepth 100000 in
set_option maxHeartbeats 8000000 in
theorem l07Replies_0 (m q l : Value) (A B : List (List Int)) (S : List Int) (w : World) (h1 : PM.Rows w m A) (h2 : PM.Rows w q B) (h3 : Ints w l S) (hG : Gm A B) (hll : S.length = (gcols A)) (hS : ∀ t, t < (gcols A) → 0 ≤ S.getD t 0 ∧ S.getD t 0 ≤ 1000000000) :
    Calls Try.prog 84 #[.agg #[m, q], .int .i64 0, l] w fun e w' => ∃ v, e = .returned v ∧ FreshI w.heap.size w' v (repL (payL (fun o t => gE A o t) S A.length (gcols A))) ∧ Below w.heap.size w w' := by
  obtain ⟨k1, l1, n5, bk, al, bl, ae, be⟩ := hG
  obtain ⟨j0, hj, hyy0, hyy1, hyy2⟩ := info_parts info_int
  obtain ⟨b, off, c, rfl, hA⟩ := tab_at h1 k1 l1 al
  obtain ⟨qb, qo, qc, rfl, hB⟩ := tab_at h2 (by omega) l1 (fun i hi => bl i (by omega))
  rw [bk] at hB ⊢
  obtain ⟨lb, lo, lc, rfl, hlb, hLc⟩ := ints_row h3 (by omega)
  have hgg : ∀ o t, o < A.length → t < (gcols A) → 1 ≤ (fun o t => gE A o t) o t ∧ (fun o t => gE A o t) o t ≤ 20 := fun o t ho ht => ae o t ho ht
  have hbd := fun o (ho : o < A.length) => payTo_bd (G := fun o t => gE A o t) (S := S) (o := o) (m := (gcols A)) (fun t ht => hgg o t ho ht) hS
  have hprod : ∀ o t, o < A.length → t < (gcols A) → -20000000000 ≤ (fun o t => gE A o t) o t * S.getD t 0 ∧ (fun o t => gE A o t) o t * S.getD t 0 ≤ 20000000000 := fun o t ho ht => by
    have a := hgg o t ho ht
    have b := hS t ht
    exact PM.mul_bd (A := 20) (B := 1000000000) (by omega) (by omega) (by omega) (by omega)
  obtain ⟨F, hF⟩ : ∃ F : Nat → Nat → Int, F = payTo (fun o t => gE A o t) S := ⟨_, rfl⟩
  have hres : (List.range A.length).map (fun o => F o (gcols A)) = payL (fun o t => gE A o t) S A.length (gcols A) := by rw [hF]; rfl
  have hF0 : ∀ i, F i 0 = 0 := fun i => by rw [hF]; rfl
  have hF1 : ∀ i t, F i (t + 1) = F i t + (fun o t => gE A o t) i t * S.getD t 0 := fun i t => by rw [hF, payTo, Int.mul_comm]
  rw [← hF] at hbd
  obtain ⟨P, hP⟩ : ∃ P, P = payL (fun o t => gE A o t) S A.length (gcols A) := ⟨_, rfl⟩
  have hPl : P.length = A.length := by rw [hP]; simp [payL]
  have hPg : ∀ j, j < P.length → 0 ≤ P.getD j 0 := fun j hj => by
    rw [hPl] at hj
    have := hbd j hj (gcols A) (Nat.le_refl _)
    rw [hP, ← hres]
    rw [show ((List.range A.length).map (fun o => F o (gcols A))).getD j 0 = F j (gcols A) by simp [hj]]
    omega
  rw [← hP] at hres ⊢
  have hLc' : ∀ wr, Below w.heap.size w wr → ∀ t, t < (gcols A) → wr.cell? ⟨lb, lo + t, none⟩ = some (.int .i64 (S.getD t 0)) := fun wr hw t ht => (hw.cell (p := ⟨lb, lo + t, none⟩) hlb).trans (hLc t (by omega))
  rw [hll]
  have HA := Lib.hid hA
  have HBt := Lib.hid hB
  have HL := Lib.hid hLc'
  have HBD := Lib.hid hbd
  have HPR := Lib.hid hprod
  have HF0 := Lib.hid hF0
  have HF1 := Lib.hid hF1
  have HRES := Lib.hid hres
  have HBI := Lib.hid (bestTo_is hPg)
  have HPL := Lib.hid hPl
  clear h1 h2 h3 hA hB hLc hLc' hbd hprod hF hF0 hF1 hres bk al bl ae be hll hS hgg hP hPg hPl
  obtain ⟨W0, hW0⟩ : ∃ W0, W0 = w.alloc (.cells #[.slice (some ⟨b, off, none⟩) A.length c, .slice (some ⟨qb, qo, none⟩) A.length qc] 43) := ⟨_, rfl⟩
  have hb0 : Below w.heap.size w W0 := by rw [hW0]; exact (Below.refl _ _).alloc (Nat.le_refl _) _
  have hz0 : w.heap.size < W0.heap.size := by rw [hW0]; simp
  have x0 : W0.cell? ⟨w.heap.size, 0, none⟩ = some (.slice (some ⟨b, off, none⟩) A.length c) := by rw [hW0]; simp
  have x1 : W0.cell? ⟨w.heap.size, 1, none⟩ = some (.slice (some ⟨qb, qo, none⟩) A.length qc) := by rw [hW0]; simp
  have HF0' := Lib.hid (freshI_nil W0)
  have hA0 : Below W0.heap.size W0 (W0.alloc (.cells #[] 2)) := (Below.refl _ _).alloc (Nat.le_refl _) _
  have HK := Lib.hid (fun wr (h : Below W0.heap.size W0 wr) => show wr.cell? ⟨w.heap.size, 0, none⟩ = some (.slice (some ⟨b, off, none⟩) A.length c) ∧ wr.cell? ⟨w.heap.size, 1, none⟩ = some (.slice (some ⟨qb, qo, none⟩) A.length qc) from
    ⟨(h.cell (p := ⟨w.heap.size, 0, none⟩) hz0).trans x0, (h.cell (p := ⟨w.heap.size, 1, none⟩) hz0).trans x1⟩)
  have HB0 := Lib.hid hb0
  have HW0 := Lib.hid hW0
  have hle0 := hb0.size
  clear hW0 hb0 x0 x1
  go_enter Try.func84, Try.ntmps84
  go_wp2_with fail
  rw [← HW0.out]
  rw [show w.heap.size + 1 = W0.heap.size by rw [HW0.out]; simp]
  clear HW0
  go_loopw [7, 8, 9, 10] (fun v i _ _ wr => ∃ o : Nat, o ≤ A.length ∧ i = .int .i64 o ∧ FreshI W0.heap.size wr v ((List.range o).map fun o => F o (gcols A)) ∧ Below W0.heap.size W0 wr) (fun _ i _ _ _ => A.length - (intOf i).toNat)
  case atStart => exact ⟨0, Nat.zero_le _, rfl, HF0'.out, hA0⟩
  case round =>
    obtain ⟨o, ho, rfl, hO, hB⟩ := hrel
    obtain ⟨e0, e1⟩ := HK.out wr hB
    by_cases hlt : o < A.length
    · have hf0 := HF0.out o
      obtain ⟨f, hf⟩ : ∃ f, f = F o 0 := ⟨_, rfl⟩
      rw [← hf] at hf0
      subst hf0
      have HFF := Lib.hid hf
      have HO := Lib.hid hO
      have HB := Lib.hid hB
      have hzr := hB.size
      clear hf hO hB
      obtain ⟨W1, rfl⟩ : ∃ W1, W1 = wr := ⟨_, rfl⟩
      go_wp2_with fail
      clear e0 e1
      go_loopw [9, 10] (fun s i wi => ∃ (t : Nat) (S : Int), t ≤ (gcols A) ∧ i = .int .i64 t ∧ s = .int .i64 S ∧ Hid (S = F o t) ∧ Below W1.heap.size W1 wi) (fun _ i _ => (gcols A) - (intOf i).toNat)
      case atStart => exact ⟨0, 0, Nat.zero_le _, rfl, rfl, HFF, Below.refl _ _⟩
      case round =>
        obtain ⟨t, S', ht, rfl, rfl, hS, hBi⟩ := hrel
        have hB2 := HB.out.trans (hBi.mono hzr)
        obtain ⟨e0, e1⟩ := HK.out wr hB2
        by_cases hltt : t < (gcols A)
        · obtain ⟨r, ro, rd, t0, y0⟩ := HA.out wr (HB0.out.trans (hB2.mono hle0)) o hlt
          have r0 := y0 t (by omega)
          have l0 := HL.out wr (HB0.out.trans (hB2.mono hle0)) t hltt
          have hbd1 := HBD.out o hlt (t + 1) (by omega)
          have hpr := HPR.out o t hlt hltt
          have hstep := HF1.out o t
          rw [← hS.out] at hstep
          obtain ⟨nx, hnx⟩ : ∃ nx, nx = S.getD t 0 := ⟨_, rfl⟩
          rw [← hnx] at l0 hpr hstep
          obtain ⟨a, ha⟩ : ∃ a, a = gE A o t := ⟨_, rfl⟩
          rw [← ha] at hpr hstep
          replace r0 : wr.cell? ⟨r, ro + t, none⟩ = some (.int .i64 a) := by rw [ha]; exact r0
          obtain ⟨p, hp⟩ : ∃ p, p = a * nx := ⟨_, rfl⟩
          rw [← hp] at hpr hstep
          obtain ⟨f1', hf1⟩ : ∃ f1', f1' = F o (t + 1) := ⟨_, rfl⟩
          rw [← hf1] at hbd1 hstep
          have hw2 : wrap64 p = p := IntWalk.wrap64_in _ (by omega)
          have hw3 : wrap64 f1' = f1' := IntWalk.wrap64_in _ (by omega)
          have hw2' : IntKind.i64.wrap p = p := IntWalk.i64_in _ (by omega)
          have hw3' : IntKind.i64.wrap f1' = f1' := IntWalk.i64_in _ (by omega)
          have hp' := hp.symm
          have hstep' := hstep.symm
          have HF1' := Lib.hid hf1
          have HBd := Lib.hid (fun n => below_drewN hBi n)
          clear hbd1 hpr hstep hp hf1 ha hnx y0 hB2 hBi hS
          go_wp2_with fail
          go_quiet (fail)
          go_wp2_with fail
          go_roundw
          case rel => exact ⟨t + 1, f1', by omega, by go_num, (by first | rfl | simp only [hw2, hstep', hw3]), HF1', HBd.out _⟩
          case measure => simp [intOf]; omega
        · obtain rfl : t = (gcols A) := by omega
          have hO2 := HO.out.below hBi
          have how := hO2.owns
          rw [show ((List.range o).map fun o => F o (gcols A)).length = o by simp] at how
          have HOW := Lib.hid how
          have HO2 := Lib.hid hO2
          have HSN := Lib.hid (range_snocG (fun o => F o (gcols A)) o)
          have HB2 := Lib.hid hB2
          have hzi := hB2.size
          have hSx := hS.out
          have HSX := Lib.hid hSx
          clear hS hSx hBi hO2 how hB2
          go_wp2_with (at_builtin; refine wpList_append_lies _ rfl _ _ 23 rfl 0 2 j0 (.int .i64 0) 1 8 Try.underlying23 hj hyy0 hyy1 hyy2 rfl (by decide) u7 o _ rfl ((HOW.out).alloc _) _ 1 _ [.int .i64 S'] rfl rfl (cell_one_new _ _ _) (by simp [Value.oneCell']) (by decide) (by unfold maxLen; omega) (by omega) (Nat.zero_le _) _ rfl ?_; intro g cap w3 hown hgrow hat hgl)
          have hpu := HO2.out.push (by omega) (by simp) hown hat hgl
          have hgr := HO2.out.grow HB2.out (by omega) hgrow
          rw [HSX.out, HSN.out] at hpu
          have HPU := Lib.hid hpu
          have HGR := Lib.hid hgr
          clear hpu hgr hown hgrow hat hgl
          go_wp2_with fail
          go_roundw
          case rel => exact ⟨o + 1, by omega, by go_num, HPU.out, HGR.out⟩
          case measure => simp [intOf]; omega
    · obtain rfl : o = A.length := by omega
      rw [HRES.out] at hO
      obtain ⟨g, cap, rfl, hg1, hg2⟩ := FreshI.shape2 (n := A.length) hO HPL.out
      obtain ⟨_, _, hvv, _, hz5, hoo⟩ := id hO
      have hce : ∀ j, j < A.length → wr.cell? ⟨g, j, none⟩ = some (.int .i64 (P.getD j 0)) := fun j hj => by
        rw [own_cellN hoo HPL.out.symm hj]
      have HCE := Lib.hid hce
      have HB := Lib.hid (HB0.out.trans (hB.mono hle0))
      clear hO hB hvv hz5 hoo hce
      obtain ⟨W1, rfl⟩ : ∃ W1, W1 = wr := ⟨_, rfl⟩
      have HN2 := Lib.hid (freshI_nil W1)
      have HA2 := Lib.hid (show Below W1.heap.size W1 (W1.alloc (.cells #[] 2)) from (Below.refl _ _).alloc (Nat.le_refl _) _)
      go_wp2_with fail
      obtain ⟨W2, hW2⟩ : ∃ W2, W2 = W1.alloc (.cells #[] 2) := ⟨_, rfl⟩
      rw [← hW2] at HN2 HA2
      rw [← hW2]
      clear hW2 e0 e1
      go_loopw [14, 16] (fun m i wr => ∃ k : Nat, k ≤ A.length ∧ i = .int .i64 k ∧ m = .int .i64 (bestTo P k) ∧ wr = W2) (fun _ i _ => A.length - (intOf i).toNat)
      case atStart => exact ⟨0, Nat.zero_le _, by go_num, rfl, rfl⟩
      case round =>
        obtain ⟨k, hk, rfl, rfl, hww⟩ := hrel
        have hww' := hww.symm
        clear hww
        subst hww'
        by_cases hlt : k < A.length
        · have t1 := (HA2.out.cell (p := ⟨g, k, none⟩) hg2).trans (HCE.out k hlt)
          have hst : Hid (bestTo P (k + 1) = max (bestTo P k) (P.getD k 0)) := rfl
          generalize bestTo P k = s at *
          generalize P.getD k 0 = q at *
          by_cases hgt : s > q
          · have hh2 : Hid (max s q = s) := by show _ = _; omega
            go_wp2_with fail
            go_roundw
            case rel => exact ⟨k + 1, by omega, by go_num, by rw [hst.out, hh2.out], trivial⟩
            case measure => simp [intOf]; omega
          · have hh2 : Hid (max s q = q) := by show _ = _; omega
            go_wp2_with fail
            go_roundw
            case rel => exact ⟨k + 1, by omega, by go_num, by
                        rw [hst.out, hh2.out]
                        try (split <;> first | rfl | rw [show s = q by omega]), trivial⟩
            case measure => simp [intOf]; omega
        · obtain rfl : k = A.length := by omega
          have hrl : repL P = repTo P (bestTo P A.length) A.length := by unfold repL; rw [HPL.out]
          have HREP := Lib.hid hrl
          clear hrl
          generalize bestTo P A.length = r at *
          go_wp2_with fail
          go_loopw [15, 17] (fun v i wr => ∃ k : Nat, k ≤ A.length ∧ i = .int .i64 k ∧ FreshI W1.heap.size wr v (repTo P r k) ∧ Below W1.heap.size W1 wr) (fun _ i _ => A.length - (intOf i).toNat)
          case atStart => exact ⟨0, Nat.zero_le _, by go_num, HN2.out, HA2.out⟩
          case round =>
            obtain ⟨k, hk, rfl, hO, hB⟩ := hrel
            by_cases hlt : k < A.length
            · have t1 := (hB.cell (p := ⟨g, k, none⟩) hg2).trans (HCE.out k hlt)
              have hlen := repTo_len P r k
              have how := hO.owns
              obtain ⟨n, hn⟩ : ∃ n, n = (repTo P r k).length := ⟨_, rfl⟩
              rw [← hn] at how hlen
              have HO := Lib.hid hO
              have HB3 := Lib.hid hB
              have hzz := hB.size
              have HOW := Lib.hid how
              have HN := Lib.hid hn
              obtain ⟨x, hx⟩ : ∃ x, x = P.getD k 0 := ⟨_, rfl⟩
              rw [← hx] at t1
              have HX := Lib.hid hx
              clear how hO hB hn hx
              by_cases he : x = r
              · have HS := Lib.hid (repTo_yes (show P.getD k 0 = r by rw [← HX.out]; exact he))
                have hxr : (x == r) = true := by simp [he]
                clear he
                go_wp2_with (at_builtin; refine wpList_append_lies _ rfl _ _ 23 rfl 0 2 j0 (.int .i64 0) 1 8 Try.underlying23 hj hyy0 hyy1 hyy2 rfl (by decide) u15 n _ rfl ((HOW.out).alloc _) _ 1 _ [.int .i64 k] rfl rfl (cell_one_new _ _ _) (by simp [Value.oneCell']) (by decide) (by unfold maxLen; omega) (by omega) (Nat.zero_le _) _ rfl ?_; intro g' cap' w3 hown hgrow hat hgl)
                have hpu := HO.out.push (by omega) HN.out hown hat hgl
                have hgr := HO.out.grow HB3.out (by omega) hgrow
                rw [← HS.out] at hpu
                have HPU := Lib.hid hpu
                have HGR := Lib.hid hgr
                clear hpu hgr hown hgrow hat hgl
                go_wp2_with fail
                go_roundw
                case rel => exact ⟨k + 1, by omega, by go_num, HPU.out, HGR.out⟩
                case measure => simp [intOf]; omega
              · have hs := repTo_no (show ¬ P.getD k 0 = r by rw [← HX.out]; exact he)
                have hxr : (x == r) = false := by simp [he]
                have HI2 : Hid (FreshI W1.heap.size wr u15 (repTo P r (k + 1))) := Lib.hid (by rw [hs]; exact HO.out)
                clear hs
                go_wp2_with fail
                go_roundw
                case rel => exact ⟨k + 1, by omega, by go_num, HI2.out, HB3.out⟩
                case measure => simp [intOf]; omega
            · obtain rfl : k = A.length := by omega
              have HO := Lib.hid (hO.mono HB.out.size)
              have HBE := Lib.hid (HB.out.trans (hB.mono HB.out.size))
              clear hO hB
              go_wp2_with fail
              go_ret
              exact ⟨_, rfl, by rw [HREP.out]; exact HO.out, HBE.out⟩
set_option maxRecDepth 100000 in
set_option maxHeartbeats 8000000 in
theorem l07Replies_1 (m q l : Value) (A B : List (List Int)) (S : List Int) (w : World) (h1 : PM.Rows w m A) (h2 : PM.Rows w q B) (h3 : Ints w l S) (hG : Gm A B) (hll : S.length = A.length) (hS : ∀ t, t < A.length → 0 ≤ S.getD t 0 ∧ S.getD t 0 ≤ 1000000000) :
    Calls Try.prog 84 #[.agg #[m, q], .int .i64 1, l] w fun e w' => ∃ v, e = .returned v ∧ FreshI w.heap.size w' v (repL (payL (fun o t => gE B t o) S (gcols A) A.length)) ∧ Below w.heap.size w w' := by
  obtain ⟨k1, l1, n5, bk, al, bl, ae, be⟩ := hG
  obtain ⟨j0, hj, hyy0, hyy1, hyy2⟩ := info_parts info_int
  obtain ⟨b, off, c, rfl, hA⟩ := tab_at h1 k1 l1 al
  obtain ⟨qb, qo, qc, rfl, hB⟩ := tab_at h2 (by omega) l1 (fun i hi => bl i (by omega))
  rw [bk] at hB ⊢
  obtain ⟨lb, lo, lc, rfl, hlb, hLc⟩ := ints_row h3 (by omega)
  have hgg : ∀ o t, o < (gcols A) → t < A.length → 1 ≤ (fun o t => gE B t o) o t ∧ (fun o t => gE B t o) o t ≤ 20 := fun o t ho ht => be t o ht ho
  have hbd := fun o (ho : o < (gcols A)) => payTo_bd (G := fun o t => gE B t o) (S := S) (o := o) (m := A.length) (fun t ht => hgg o t ho ht) hS
  have hprod : ∀ o t, o < (gcols A) → t < A.length → -20000000000 ≤ (fun o t => gE B t o) o t * S.getD t 0 ∧ (fun o t => gE B t o) o t * S.getD t 0 ≤ 20000000000 := fun o t ho ht => by
    have a := hgg o t ho ht
    have b := hS t ht
    exact PM.mul_bd (A := 20) (B := 1000000000) (by omega) (by omega) (by omega) (by omega)
  obtain ⟨F, hF⟩ : ∃ F : Nat → Nat → Int, F = payTo (fun o t => gE B t o) S := ⟨_, rfl⟩
  have hres : (List.range (gcols A)).map (fun o => F o A.length) = payL (fun o t => gE B t o) S (gcols A) A.length := by rw [hF]; rfl
  have hF0 : ∀ i, F i 0 = 0 := fun i => by rw [hF]; rfl
  have hF1 : ∀ i t, F i (t + 1) = F i t + (fun o t => gE B t o) i t * S.getD t 0 := fun i t => by rw [hF, payTo, Int.mul_comm]
  rw [← hF] at hbd
  obtain ⟨P, hP⟩ : ∃ P, P = payL (fun o t => gE B t o) S (gcols A) A.length := ⟨_, rfl⟩
  have hPl : P.length = (gcols A) := by rw [hP]; simp [payL]
  have hPg : ∀ j, j < P.length → 0 ≤ P.getD j 0 := fun j hj => by
    rw [hPl] at hj
    have := hbd j hj A.length (Nat.le_refl _)
    rw [hP, ← hres]
    rw [show ((List.range (gcols A)).map (fun o => F o A.length)).getD j 0 = F j A.length by simp [hj]]
    omega
  rw [← hP] at hres ⊢
  have hLc' : ∀ wr, Below w.heap.size w wr → ∀ t, t < A.length → wr.cell? ⟨lb, lo + t, none⟩ = some (.int .i64 (S.getD t 0)) := fun wr hw t ht => (hw.cell (p := ⟨lb, lo + t, none⟩) hlb).trans (hLc t (by omega))
  rw [hll]
  have HA := Lib.hid hA
  have HBt := Lib.hid hB
  have HL := Lib.hid hLc'
  have HBD := Lib.hid hbd
  have HPR := Lib.hid hprod
  have HF0 := Lib.hid hF0
  have HF1 := Lib.hid hF1
  have HRES := Lib.hid hres
  have HBI := Lib.hid (bestTo_is hPg)
  have HPL := Lib.hid hPl
  clear h1 h2 h3 hA hB hLc hLc' hbd hprod hF hF0 hF1 hres bk al bl ae be hll hS hgg hP hPg hPl
  obtain ⟨W0, hW0⟩ : ∃ W0, W0 = w.alloc (.cells #[.slice (some ⟨b, off, none⟩) A.length c, .slice (some ⟨qb, qo, none⟩) A.length qc] 43) := ⟨_, rfl⟩
  have hb0 : Below w.heap.size w W0 := by rw [hW0]; exact (Below.refl _ _).alloc (Nat.le_refl _) _
  have hz0 : w.heap.size < W0.heap.size := by rw [hW0]; simp
  have x0 : W0.cell? ⟨w.heap.size, 0, none⟩ = some (.slice (some ⟨b, off, none⟩) A.length c) := by rw [hW0]; simp
  have x1 : W0.cell? ⟨w.heap.size, 1, none⟩ = some (.slice (some ⟨qb, qo, none⟩) A.length qc) := by rw [hW0]; simp
  have HF0' := Lib.hid (freshI_nil W0)
  have hA0 : Below W0.heap.size W0 (W0.alloc (.cells #[] 2)) := (Below.refl _ _).alloc (Nat.le_refl _) _
  have HK := Lib.hid (fun wr (h : Below W0.heap.size W0 wr) => show wr.cell? ⟨w.heap.size, 0, none⟩ = some (.slice (some ⟨b, off, none⟩) A.length c) ∧ wr.cell? ⟨w.heap.size, 1, none⟩ = some (.slice (some ⟨qb, qo, none⟩) A.length qc) from
    ⟨(h.cell (p := ⟨w.heap.size, 0, none⟩) hz0).trans x0, (h.cell (p := ⟨w.heap.size, 1, none⟩) hz0).trans x1⟩)
  have HB0 := Lib.hid hb0
  have HW0 := Lib.hid hW0
  have hle0 := hb0.size
  clear hW0 hb0 x0 x1
  go_enter Try.func84, Try.ntmps84
  go_wp2_with fail
  rw [← HW0.out]
  rw [show w.heap.size + 1 = W0.heap.size by rw [HW0.out]; simp]
  clear HW0
  go_loopw [7, 11, 12, 13] (fun v i _ _ wr => ∃ o : Nat, o ≤ (gcols A) ∧ i = .int .i64 o ∧ FreshI W0.heap.size wr v ((List.range o).map fun o => F o A.length) ∧ Below W0.heap.size W0 wr) (fun _ i _ _ _ => (gcols A) - (intOf i).toNat)
  case atStart => exact ⟨0, Nat.zero_le _, rfl, HF0'.out, hA0⟩
  case round =>
    obtain ⟨o, ho, rfl, hO, hB⟩ := hrel
    obtain ⟨e0, e1⟩ := HK.out wr hB
    obtain ⟨r9, ro9, rd9, t9, _⟩ := HA.out wr (HB0.out.trans (hB.mono hle0)) 0 (by omega)
    simp only [Nat.add_zero] at t9
    by_cases hlt : o < (gcols A)
    · have hf0 := HF0.out o
      obtain ⟨f, hf⟩ : ∃ f, f = F o 0 := ⟨_, rfl⟩
      rw [← hf] at hf0
      subst hf0
      have HFF := Lib.hid hf
      have HO := Lib.hid hO
      have HB := Lib.hid hB
      have hzr := hB.size
      clear hf hO hB
      obtain ⟨W1, rfl⟩ : ∃ W1, W1 = wr := ⟨_, rfl⟩
      go_wp2_with fail
      clear e0 e1 t9
      go_loopw [12, 13] (fun s i wi => ∃ (t : Nat) (S : Int), t ≤ A.length ∧ i = .int .i64 t ∧ s = .int .i64 S ∧ Hid (S = F o t) ∧ Below W1.heap.size W1 wi) (fun _ i _ => A.length - (intOf i).toNat)
      case atStart => exact ⟨0, 0, Nat.zero_le _, rfl, rfl, HFF, Below.refl _ _⟩
      case round =>
        obtain ⟨t, S', ht, rfl, rfl, hS, hBi⟩ := hrel
        have hB2 := HB.out.trans (hBi.mono hzr)
        obtain ⟨e0, e1⟩ := HK.out wr hB2
        by_cases hltt : t < A.length
        · obtain ⟨r, ro, rd, t0, y0⟩ := HBt.out wr (HB0.out.trans (hB2.mono hle0)) t hltt
          have r0 := y0 o (by omega)
          have l0 := HL.out wr (HB0.out.trans (hB2.mono hle0)) t hltt
          have hbd1 := HBD.out o hlt (t + 1) (by omega)
          have hpr := HPR.out o t hlt hltt
          have hstep := HF1.out o t
          rw [← hS.out] at hstep
          obtain ⟨nx, hnx⟩ : ∃ nx, nx = S.getD t 0 := ⟨_, rfl⟩
          rw [← hnx] at l0 hpr hstep
          obtain ⟨a, ha⟩ : ∃ a, a = gE B t o := ⟨_, rfl⟩
          rw [← ha] at hpr hstep
          replace r0 : wr.cell? ⟨r, ro + o, none⟩ = some (.int .i64 a) := by rw [ha]; exact r0
          obtain ⟨p, hp⟩ : ∃ p, p = a * nx := ⟨_, rfl⟩
          rw [← hp] at hpr hstep
          obtain ⟨f1', hf1⟩ : ∃ f1', f1' = F o (t + 1) := ⟨_, rfl⟩
          rw [← hf1] at hbd1 hstep
          have hw2 : wrap64 p = p := IntWalk.wrap64_in _ (by omega)
          have hw3 : wrap64 f1' = f1' := IntWalk.wrap64_in _ (by omega)
          have hw2' : IntKind.i64.wrap p = p := IntWalk.i64_in _ (by omega)
          have hw3' : IntKind.i64.wrap f1' = f1' := IntWalk.i64_in _ (by omega)
          have hp' := hp.symm
          have hstep' := hstep.symm
          have HF1' := Lib.hid hf1
          have HBd := Lib.hid (fun n => below_drewN hBi n)
          clear hbd1 hpr hstep hp hf1 ha hnx y0 hB2 hBi hS
          go_wp2_with fail
          go_quiet (fail)
          go_wp2_with fail
          go_roundw
          case rel => exact ⟨t + 1, f1', by omega, by go_num, (by first | rfl | simp only [hw2, hstep', hw3]), HF1', HBd.out _⟩
          case measure => simp [intOf]; omega
        · obtain rfl : t = A.length := by omega
          have hO2 := HO.out.below hBi
          have how := hO2.owns
          rw [show ((List.range o).map fun o => F o A.length).length = o by simp] at how
          have HOW := Lib.hid how
          have HO2 := Lib.hid hO2
          have HSN := Lib.hid (range_snocG (fun o => F o A.length) o)
          have HB2 := Lib.hid hB2
          have hzi := hB2.size
          have hSx := hS.out
          have HSX := Lib.hid hSx
          clear hS hSx hBi hO2 how hB2
          go_wp2_with (at_builtin; refine wpList_append_lies _ rfl _ _ 23 rfl 0 2 j0 (.int .i64 0) 1 8 Try.underlying23 hj hyy0 hyy1 hyy2 rfl (by decide) u7 o _ rfl ((HOW.out).alloc _) _ 1 _ [.int .i64 S'] rfl rfl (cell_one_new _ _ _) (by simp [Value.oneCell']) (by decide) (by unfold maxLen; omega) (by omega) (Nat.zero_le _) _ rfl ?_; intro g cap w3 hown hgrow hat hgl)
          have hpu := HO2.out.push (by omega) (by simp) hown hat hgl
          have hgr := HO2.out.grow HB2.out (by omega) hgrow
          rw [HSX.out, HSN.out] at hpu
          have HPU := Lib.hid hpu
          have HGR := Lib.hid hgr
          clear hpu hgr hown hgrow hat hgl
          go_wp2_with fail
          go_roundw
          case rel => exact ⟨o + 1, by omega, by go_num, HPU.out, HGR.out⟩
          case measure => simp [intOf]; omega
    · obtain rfl : o = (gcols A) := by omega
      rw [HRES.out] at hO
      obtain ⟨g, cap, rfl, hg1, hg2⟩ := FreshI.shape2 (n := (gcols A)) hO HPL.out
      obtain ⟨_, _, hvv, _, hz5, hoo⟩ := id hO
      have hce : ∀ j, j < (gcols A) → wr.cell? ⟨g, j, none⟩ = some (.int .i64 (P.getD j 0)) := fun j hj => by
        rw [own_cellN hoo HPL.out.symm hj]
      have HCE := Lib.hid hce
      have HB := Lib.hid (HB0.out.trans (hB.mono hle0))
      clear hO hB hvv hz5 hoo hce
      obtain ⟨W1, rfl⟩ : ∃ W1, W1 = wr := ⟨_, rfl⟩
      have HN2 := Lib.hid (freshI_nil W1)
      have HA2 := Lib.hid (show Below W1.heap.size W1 (W1.alloc (.cells #[] 2)) from (Below.refl _ _).alloc (Nat.le_refl _) _)
      go_wp2_with fail
      obtain ⟨W2, hW2⟩ : ∃ W2, W2 = W1.alloc (.cells #[] 2) := ⟨_, rfl⟩
      rw [← hW2] at HN2 HA2
      rw [← hW2]
      clear hW2 e0 e1 t9
      go_loopw [14, 16] (fun m i wr => ∃ k : Nat, k ≤ (gcols A) ∧ i = .int .i64 k ∧ m = .int .i64 (bestTo P k) ∧ wr = W2) (fun _ i _ => (gcols A) - (intOf i).toNat)
      case atStart => exact ⟨0, Nat.zero_le _, by go_num, rfl, rfl⟩
      case round =>
        obtain ⟨k, hk, rfl, rfl, hww⟩ := hrel
        have hww' := hww.symm
        clear hww
        subst hww'
        by_cases hlt : k < (gcols A)
        · have t1 := (HA2.out.cell (p := ⟨g, k, none⟩) hg2).trans (HCE.out k hlt)
          have hst : Hid (bestTo P (k + 1) = max (bestTo P k) (P.getD k 0)) := rfl
          generalize bestTo P k = s at *
          generalize P.getD k 0 = q at *
          by_cases hgt : s > q
          · have hh2 : Hid (max s q = s) := by show _ = _; omega
            go_wp2_with fail
            go_roundw
            case rel => exact ⟨k + 1, by omega, by go_num, by rw [hst.out, hh2.out], trivial⟩
            case measure => simp [intOf]; omega
          · have hh2 : Hid (max s q = q) := by show _ = _; omega
            go_wp2_with fail
            go_roundw
            case rel => exact ⟨k + 1, by omega, by go_num, by
                        rw [hst.out, hh2.out]
                        try (split <;> first | rfl | rw [show s = q by omega]), trivial⟩
            case measure => simp [intOf]; omega
        · obtain rfl : k = (gcols A) := by omega
          have hrl : repL P = repTo P (bestTo P (gcols A)) (gcols A) := by unfold repL; rw [HPL.out]
          have HREP := Lib.hid hrl
          clear hrl
          generalize bestTo P (gcols A) = r at *
          go_wp2_with fail
          go_loopw [15, 17] (fun v i wr => ∃ k : Nat, k ≤ (gcols A) ∧ i = .int .i64 k ∧ FreshI W1.heap.size wr v (repTo P r k) ∧ Below W1.heap.size W1 wr) (fun _ i _ => (gcols A) - (intOf i).toNat)
          case atStart => exact ⟨0, Nat.zero_le _, by go_num, HN2.out, HA2.out⟩
          case round =>
            obtain ⟨k, hk, rfl, hO, hB⟩ := hrel
            by_cases hlt : k < (gcols A)
            · have t1 := (hB.cell (p := ⟨g, k, none⟩) hg2).trans (HCE.out k hlt)
              have hlen := repTo_len P r k
              have how := hO.owns
              obtain ⟨n, hn⟩ : ∃ n, n = (repTo P r k).length := ⟨_, rfl⟩
              rw [← hn] at how hlen
              have HO := Lib.hid hO
              have HB3 := Lib.hid hB
              have hzz := hB.size
              have HOW := Lib.hid how
              have HN := Lib.hid hn
              obtain ⟨x, hx⟩ : ∃ x, x = P.getD k 0 := ⟨_, rfl⟩
              rw [← hx] at t1
              have HX := Lib.hid hx
              clear how hO hB hn hx
              by_cases he : x = r
              · have HS := Lib.hid (repTo_yes (show P.getD k 0 = r by rw [← HX.out]; exact he))
                have hxr : (x == r) = true := by simp [he]
                clear he
                go_wp2_with (at_builtin; refine wpList_append_lies _ rfl _ _ 23 rfl 0 2 j0 (.int .i64 0) 1 8 Try.underlying23 hj hyy0 hyy1 hyy2 rfl (by decide) u15 n _ rfl ((HOW.out).alloc _) _ 1 _ [.int .i64 k] rfl rfl (cell_one_new _ _ _) (by simp [Value.oneCell']) (by decide) (by unfold maxLen; omega) (by omega) (Nat.zero_le _) _ rfl ?_; intro g' cap' w3 hown hgrow hat hgl)
                have hpu := HO.out.push (by omega) HN.out hown hat hgl
                have hgr := HO.out.grow HB3.out (by omega) hgrow
                rw [← HS.out] at hpu
                have HPU := Lib.hid hpu
                have HGR := Lib.hid hgr
                clear hpu hgr hown hgrow hat hgl
                go_wp2_with fail
                go_roundw
                case rel => exact ⟨k + 1, by omega, by go_num, HPU.out, HGR.out⟩
                case measure => simp [intOf]; omega
              · have hs := repTo_no (show ¬ P.getD k 0 = r by rw [← HX.out]; exact he)
                have hxr : (x == r) = false := by simp [he]
                have HI2 : Hid (FreshI W1.heap.size wr u15 (repTo P r (k + 1))) := Lib.hid (by rw [hs]; exact HO.out)
                clear hs
                go_wp2_with fail
                go_roundw
                case rel => exact ⟨k + 1, by omega, by go_num, HI2.out, HB3.out⟩
                case measure => simp [intOf]; omega
            · obtain rfl : k = (gcols A) := by omega
              have HO := Lib.hid (hO.mono HB.out.size)
              have HBE := Lib.hid (HB.out.trans (hB.mono HB.out.size))
              clear hO hB
              go_wp2_with fail
              go_ret
              exact ⟨_, rfl, by rw [HREP.out]; exact HO.out, HBE.out⟩
end Go.Proofs.Ytimcokealhnfhaa.PW
