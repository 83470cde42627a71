/-
  Walks: the heights of vertices, in the model.
-/
import Derived.Test.YtlccdnpicfmeaaaCApi
import Derived.Test.YtlccdnpicfmeaaaCHts
import Derived.Test.YtlccdnpicfmeaaaCFas
import Derived.Test.YtlccdnpicfmeaaaPRoundB
namespace Go.Proofs.Ytlccdnpicfmeaaa.PW
open Go.RowKit Go.Proofs.Ytlccdnpicfmeaaa Go.Proofs.Ytlccdnpicfmeaaa.SW
open Go.Proofs.Ytlccdnpicfmeaaa.PM

theorem info_boolT : (Try.prog.info? 4).map (fun i => (i.zero, i.size, i.bytes)) = some (some (.bool false), 1, 1) := by kernel_rfl
/-- Heights and what is known, in memory. -/
structure HtM (B : Nat) (w wr : World) (go gk T : Nat) (h : Nat → Nat) (K : Nat → Bool) : Prop where
  o : FreshI B wr (.slice (some ⟨go, 0, none⟩) T T) ((List.range T).map fun v => (h v : Int))
  k : wr.rowIs gk 4 T (fun v => .bool (K v))
  kb : B ≤ gk
  ne : go ≠ gk
  low : Below B w wr
theorem HtM.cellO {B : Nat} {w wr : World} {go gk T : Nat} {h : Nat → Nat} {K : Nat → Bool} (H : HtM B w wr go gk T h K) (v : Nat) (hv : v < T) : wr.cell? ⟨go, v, none⟩ = some (.int .i64 (h v)) ∧ wr.frozen? ⟨go, v, none⟩ = false := by
  obtain ⟨g', c', e, _, _, f3⟩ := H.o
  have e2 : go = g' ∧ T = c' := by simp at e; exact ⟨e.1, e.2⟩
  obtain ⟨rfl, rfl⟩ := e2
  have hl : T = ((List.range T).map fun v => (h v : Int)).length := by simp
  refine ⟨?_, own_frozenN f3 hl v⟩
  rw [own_cellN f3 hl hv]
  simp [hv]
theorem HtM.cellK {B : Nat} {w wr : World} {go gk T : Nat} {h : Nat → Nat} {K : Nat → Bool} (H : HtM B w wr go gk T h K) (v : Nat) (hv : v < T) : wr.cell? ⟨gk, v, none⟩ = some (.bool (K v)) ∧ wr.frozen? ⟨gk, v, none⟩ = false :=
  ⟨H.k.cell hv, H.k.frozen v⟩
theorem HtM.step {B : Nat} {w wr : World} {go gk T : Nat} {h : Nat → Nat} {K : Nat → Bool} (H : HtM B w wr go gk T h K) (v s : Nat) (hv : v < T) (hgo : B ≤ go) :
    HtM B w ((wr.setCell ⟨gk, v, none⟩ (.bool true)).setCell ⟨go, v, none⟩ (.int .i64 (s : Int))) go gk T (fun u => if u = v then s else h u) (fun u => if u = v then true else K u) := by
  have l1 : Below B w (wr.setCell ⟨gk, v, none⟩ (.bool true)) := H.low.setCell H.kb _
  have o1 : FreshI B (wr.setCell ⟨gk, v, none⟩ (.bool true)) (.slice (some ⟨go, 0, none⟩) T T) ((List.range T).map fun v => (h v : Int)) := by
    obtain ⟨g', c', e, f1, f2, f3⟩ := H.o
    have e2 : go = g' ∧ T = c' := by simp at e; exact ⟨e.1, e.2⟩
    obtain ⟨rfl, rfl⟩ := e2
    exact ⟨go, T, e, f1, by simpa using f2, f3.tch ((Tch.refl [gk] _).setCell (by simp) _) (fun b hb c => by simp [Value.ownBlock] at hb c; exact H.ne (by rw [hb, c]))⟩
  have o2 := o1.setF v (s : Int)
  have hl : ((List.range T).map fun u => (h u : Int)).set v (s : Int) = (List.range T).map fun u => ((if u = v then s else h u : Nat) : Int) := by
    apply List.ext_getElem?
    intro j
    rw [List.getElem?_set]
    by_cases e : v = j
    · subst e; simp [hv]
    · rw [if_neg e]
      simp only [List.getElem?_map]
      rcases Nat.lt_or_ge j T with hj | hj
      · rw [List.getElem?_range hj]; simp [Ne.symm e]
      · rw [List.getElem?_eq_none (by simpa using hj)]; rfl
  rw [hl] at o2
  refine ⟨o2, ?_, H.kb, H.ne, l1.setCell hgo _⟩
  obtain ⟨c, hc, hs, hat⟩ := H.k
  have hb1 : (wr.setCell ⟨gk, v, none⟩ (.bool true)).heap[gk]? = some (.cells (c.setIfInBounds v (.bool true)) 4 (0, 0)) := heap_setCell_same wr gk v c _ _ hc
  refine ⟨c.setIfInBounds v (.bool true), (heap_setCell_other _ _ _ _ (by show gk ≠ go; exact fun e => H.ne e.symm)).trans hb1, by simpa using hs, fun j hj => ?_⟩
  rw [Array.getElem?_setIfInBounds]
  by_cases e : v = j
  · subst e; rw [if_pos rfl, if_pos (by omega)]; simp
  · rw [if_neg e, hat j hj]; simp [Ne.symm e]
/-- While the two lists are made: what has been laid. -/
structure HtR (W w' : World) (T : Nat) (b1 b3 : Bool) (go gk : Nat) : Prop where
  low : Below W.heap.size W w'
  o : b1 = true → FreshI W.heap.size w' (.slice (some ⟨go, 0, none⟩) T T) (List.replicate T 0)
  k : b3 = true → w'.rowIs gk 4 T (fun _ => .bool false) ∧ W.heap.size ≤ gk
  ne : b1 = true → b3 = true → go ≠ gk
theorem HtR.mkO {W w' : World} {T : Nat} {b3 : Bool} {go gk : Nat} (h : HtR W w' T false b3 go gk) (hT : T ≤ maxLen) : HtR W (w'.alloc (.cells (madeCells #[.int .i64 0] T) 2)) T true b3 w'.heap.size gk :=
  ⟨h.low.alloc h.low.size _, fun _ => (zeros_fresh w' T hT).mono h.low.size, fun e => ⟨(h.k e).1.alloc _, (h.k e).2⟩, fun _ e => by have := (h.k e).1.lt; omega⟩
theorem HtR.mkK {W w' : World} {T : Nat} {b1 : Bool} {go gk : Nat} (h : HtR W w' T b1 false go gk) : HtR W (w'.alloc (.cells (madeCells #[.bool false] T) 4)) T b1 true go w'.heap.size :=
  ⟨h.low.alloc h.low.size _, fun e => (h.o e).below ((Below.refl _ _).alloc (Nat.le_refl _) _), fun _ => ⟨(World.rowIs_made w' (.bool false) T 4).congr (fun _ _ => rfl), h.low.size⟩, fun e _ => by
    obtain ⟨g', c', hv, _, f2, _⟩ := h.o e
    have : go = g' := by simp at hv; exact hv.1
    omega⟩
def bN : Value → Nat
  | .bool true => 1
  | _ => 0
theorem pow_nz (l : Nat) : (((2 ^ l : Nat) : Int) != 0) = true := by
  have h : 0 < 2 ^ l := Nat.pow_pos (by decide)
  generalize 2 ^ l = p at *
  simp
  omega
theorem and_pow_bit (x i : Nat) (hx : x < 2 ^ 62) (hi : i < 62) : bits BinOp.and IntKind.i64 (x : Int) ((2 : Int) ^ i) = if x.testBit i then ((2 ^ i : Nat) : Int) else 0 := by
  have h := ab_nat x (2 ^ i) hx (Nat.pow_lt_pow_right (by decide) hi)
  have e : x &&& 2 ^ i = if x.testBit i then 2 ^ i else 0 := by
    apply Nat.eq_of_testBit_eq
    intro j
    rw [Nat.testBit_and, Nat.testBit_two_pow]
    by_cases c : i = j
    · subst c
      cases hb : x.testBit i
      · simp
      · simp
    · have h2 : (if x.testBit i then 2 ^ i else 0).testBit j = false := by
        split
        · rw [Nat.testBit_two_pow]; simp [c]
        · simp
      rw [h2]
      simp [c]
  rw [e, Int.natCast_pow] at h
  have h2 : bits BinOp.and IntKind.i64 (x : Int) ((2 : Int) ^ i) = (((if x.testBit i then 2 ^ i else 0) : Nat) : Int) := h
  rw [h2]
  split <;> rfl

set_option maxRecDepth 100000 in
set_option maxHeartbeats 4000000 in
theorem l06Heights_any (O : List Int) (n b off cap : Nat) (w : World) (hc : isCB n O = true) (hn1 : 1 ≤ n) (hn : n ≤ 5) (hb : b < w.heap.size) (hcell : ∀ k, k < O.length → w.cell? ⟨b, off + k, none⟩ = some (.int .i64 (O.getD k 0))) :
    Calls Try.prog 71 #[.agg #[.int .i64 n, .slice (some ⟨b, off, none⟩) O.length cap]] w fun e w' => ∃ (go : Nat) (h : Nat → Nat), e = .returned (.tuple #[.slice (some ⟨go, 0, none⟩) O.length O.length, .bool (acyB n (fO O))]) ∧
      (∀ v, v < O.length → w'.cell? ⟨go, v, none⟩ = some (.int .i64 (h v))) ∧ go < w'.heap.size ∧ (∀ v, v < O.length → h v ≤ O.length) ∧ (acyB n (fO O) = true → lpN n (fO O) = SW.hgt h O.length) ∧ Below w.heap.size w w' := by
  have hmx : Try.prog.follows .mixedOrders = true := by kernel_rfl
  have hl := (isCB_len hc).1
  have HFO := Lib.hid (show ∀ j, j < 2 ^ n → O.getD j 0 = ((fO O j : Nat) : Int) ∧ fO O j < 2 ^ n from fun j hj => ⟨(uE_nat hc hn hj hj).2.2, (uE_nat hc hn hj hj).2.1⟩)
  obtain ⟨f, hf⟩ : ∃ f, f = fO O := ⟨_, rfl⟩
  rw [← hf] at HFO ⊢
  have hT32 := pow_le_32 hn
  have HC := Lib.hid (show ∀ k, k < O.length → w.cell? ⟨b, off + k, none⟩ = some (.int .i64 (f k : Int)) from fun k hk => by rw [hcell k hk, (HFO.out k (by omega)).1])
  have HF2 := Lib.hid (show ∀ k, k < O.length → f k < 2 ^ 62 from fun k hk => by have := (HFO.out k (by omega)).2; omega)
  have HNB := Lib.hid (show ∀ v i, v < O.length → i < n → bits BinOp.xor IntKind.i64 (v : Int) ((2 : Int) ^ i) = ((v ^^^ 2 ^ i : Nat) : Int) ∧ v ^^^ 2 ^ i < O.length from fun v i hv hi => ⟨by
    have := xb_nat v (2 ^ i) (by omega) (Nat.pow_lt_pow_right (by decide) (by omega))
    rw [Int.natCast_pow] at this
    exact this, by rw [hl] at hv ⊢; exact nb_lt hv hi⟩)
  have HH0 := Lib.hid (ht_start n f)
  have HST := Lib.hid (fun (K : Nat → Bool) (h : Nat → Nat) (c v : Nat) (H : Ht n f K h c) (hv : v < 2 ^ n) (hr : rdB f K v n = true) => H.step hv ((rdB_iff f K v n).1 hr).1 ((rdB_iff f K v n).1 hr).2)
  have HFU := Lib.hid (fun (K : Nat → Bool) (h : Nat → Nat) (c : Nat) (H : Ht n f K h c) => H.full)
  have HLE := Lib.hid (fun (K : Nat → Bool) (h : Nat → Nat) (c : Nat) (H : Ht n f K h c) => H.le)
  have hmk := run_make_row' (P := Try.prog) 23 2 (.int .i64 0) 8 Try.underlying23 info_int rfl .i64 .i64 O.length (by omega) (by omega)
  have hmk2 := run_make_row' (P := Try.prog) 96 4 (.bool false) 1 Try.underlying96 info_boolT rfl .i64 .i64 O.length (by omega) (by omega)
  rw [← hl] at HST HFU HLE hT32
  generalize acyB n f = AC at *
  generalize lpN n f = LN at *
  obtain ⟨T, hTT⟩ : ∃ T, O.length = T := ⟨_, rfl⟩
  rw [hTT] at HC HF2 HNB HST HFU HLE hT32 hmk hmk2 ⊢
  have HMX : Hid (T ≤ maxLen) := by show _ ≤ _; unfold maxLen; omega
  clear hc hcell hl hf HFO hTT
  go_enter Try.func71, Try.ntmps71
  go_wp2_with fail
  obtain ⟨W, hW⟩ : ∃ W, W = w.alloc (.cells #[.int .i64 n, .slice (some ⟨b, off, none⟩) T cap] 43) := ⟨_, rfl⟩
  have hbw0 : Below w.heap.size w W := by rw [hW]; exact (Below.refl _ _).alloc (Nat.le_refl _) _
  have hzw : w.heap.size < W.heap.size := by rw [hW]; simp
  have x0 : W.cell? ⟨w.heap.size, 0, none⟩ = some (.int .i64 n) := by rw [hW]; simp
  have x1 : W.cell? ⟨w.heap.size, 1, none⟩ = some (.slice (some ⟨b, off, none⟩) T cap) := by rw [hW]; simp
  rw [← hW]
  have HBW := Lib.hid hbw0
  have HK := Lib.hid (fun wr (h : Below W.heap.size W wr) => show wr.cell? ⟨w.heap.size, 0, none⟩ = some (.int .i64 n) ∧ wr.cell? ⟨w.heap.size, 1, none⟩ = some (.slice (some ⟨b, off, none⟩) T cap) from
    ⟨(h.cell (p := ⟨w.heap.size, 0, none⟩) hzw).trans x0, (h.cell (p := ⟨w.heap.size, 1, none⟩) hzw).trans x1⟩)
  have HCC := Lib.hid (fun wr (h : Below W.heap.size W wr) k (hk : k < T) => show wr.cell? ⟨b, off + k, none⟩ = some (.int .i64 (f k : Int)) from
    (h.cell (p := ⟨b, off + k, none⟩) (by show b < _; omega)).trans ((hbw0.cell (p := ⟨b, off + k, none⟩) hb).trans (HC.out k hk)))
  clear hW hbw0 x0 x1 HC
  rename_i K0 hK0
  refine (wpIn_wide (n := 8)).1 ?_
  refine PR.wpIn_region_inv hmx (by kernel_rfl) (fun listed ac w' =>
      ∃ (b0 b1 b2 b3 b4 b5 b6 : Bool) (go : Nat) (gk : Nat), ((b1 = true → b0 = true) ∧ (b3 = true → b2 = true) ∧ (b4 = true → b1 = true) ∧ (b5 = true → b3 = true)) ∧ listed = #[b0, b1, b2, b3, b4, b5, b6] ∧
        ac = { tmps := #[.agg #[.int .i64 n, .slice (some ⟨b, off, none⟩) T cap], .pointer (some ⟨w.heap.size, 0, none⟩), .slice none 0 0, .bool false, .int .i64 T, cond b4 (.slice (some ⟨go, 0, none⟩) T T) undef, cond b5 (.slice (some ⟨gk, 0, none⟩) T T) undef, cond b6 (.int .i64 0) undef, undef, undef, undef, undef, undef, undef, .pointer (some ⟨w.heap.size, 1, none⟩), .slice (some ⟨b, off, none⟩) T cap, .int .i64 T, cond b0 (.int .i64 T) undef, cond b1 (.slice (some ⟨go, 0, none⟩) T T) undef, cond b2 (.int .i64 T) undef, cond b3 (.slice (some ⟨gk, 0, none⟩) T T) undef, undef, undef, undef, undef, undef, undef, undef, undef, undef, undef, undef, undef, undef, undef, undef, undef, undef, undef, undef, undef, undef, undef, undef, undef, undef, undef, undef, undef, undef, undef, undef, undef, undef, undef, undef, undef, undef, undef, undef, undef, undef, undef, undef, undef, undef, undef, undef, undef, undef, undef, undef, undef, undef, undef, undef, undef, undef, undef, undef, undef], defers := [] } ∧ HtR W w' T b1 b3 go gk) ?_ ?_ ?_ ?_
  · rintro listed ac w' ⟨b0, b1, b2, b3, b4, b5, b6, go, gk, _, rfl, _⟩
    rfl
  · rintro listed ac w' ⟨b0, b1, b2, b3, b4, b5, b6, go, gk, _, rfl, rfl, hR⟩ hall
    have h0 := hall 0 (by simp)
    have h1 := hall 1 (by simp)
    have h2 := hall 2 (by simp)
    have h3 := hall 3 (by simp)
    have h4 := hall 4 (by simp)
    have h5 := hall 5 (by simp)
    have h6 := hall 6 (by simp)
    simp at h0 h1 h2 h3 h4 h5 h6
    subst h0 h1 h2 h3 h4 h5 h6
    clear hall
    refine hK0 _ _ ?_
    simp only [cond_true]
    have hoB : W.heap.size ≤ go := by
      obtain ⟨g', c', hv, f1, _, _⟩ := hR.o rfl
      have : go = g' := by simp at hv; exact hv.1
      omega
    have H0 : HtM W.heap.size W w' go gk T (fun _ => 0) (fun _ => false) := ⟨by
      have := hR.o rfl
      rwa [show List.replicate T (0 : Int) = (List.range T).map fun v => (((fun _ => 0 : Nat → Nat) v : Nat) : Int) by
        apply List.ext_getElem?
        intro j
        rw [List.getElem?_replicate]
        rcases Nat.lt_or_ge j T with hj | hj
        · rw [if_pos hj]; simp [hj]
        · rw [if_neg (by omega), List.getElem?_eq_none (by simpa using hj)]] at this, (hR.k rfl).1, (hR.k rfl).2, hR.ne rfl rfl, hR.low⟩
    have HM0 := Lib.hid H0
    clear hR H0 hmk hmk2
    obtain ⟨W0, hW0⟩ : ∃ W0, W0 = w' := ⟨_, rfl⟩
    rw [← hW0] at HM0 ⊢
    clear hW0
    go_wp2_with fail
    go_loopw [7, 8, 9, 10, 11, 12, 13] (fun c m _ _ _ _ _ wr => ∃ (cc : Nat) (mm : Bool) (K : Nat → Bool) (h : Nat → Nat), c = .int .i64 cc ∧ m = .bool mm ∧ Hid (Ht n f K h cc) ∧ Hid (HtM W.heap.size W wr go gk T h K) ∧ Hid (mm = false → ∀ v, v < T → stuckAt n f K v)) (fun c m _ _ _ _ _ _ => 2 * (T - (intOf c).toNat) + bN m)
    case atStart => exact ⟨0, true, _, _, by go_num, rfl, HH0, HM0, fun e => Bool.noConfusion e⟩
    case round =>
      obtain ⟨cc, mm, K, h, rfl, rfl, hH, hM, hS⟩ := hrel
      have hcT := (HFU.out K h cc hH.out).1
      cases mm
      · obtain ⟨e1, e2⟩ := (HFU.out K h cc hH.out).2
        have hle := Lib.hid (fun v hv => Nat.le_trans (HLE.out K h cc hH.out v hv) hcT)
        have HCE := Lib.hid (fun v (hv : v < T) => (hM.out.cellO v hv).1)
        have hgz : go < wr.heap.size := by obtain ⟨g', c', hv, _, f2, _⟩ := hM.out.o; have : go = g' := by simp at hv; exact hv.1
                                           omega
        by_cases hcc : cc = T
        · have HE := Lib.hid (e1 hcc)
          subst hcc
          clear e1 e2 hcT
          go_wp2_with fail
          refine bodyPost_ret (v := .tuple #[.slice (some ⟨go, 0, none⟩) cc cc, .bool true]) (by simp [results, Try.results71, go_sem]) rfl ?_
          exact ⟨go, by rw [HE.out.1], h, HCE.out, hgz, hle.out, fun _ => HE.out.2, HBW.out.trans (hM.out.low.mono HBW.out.size)⟩
        · have HE := Lib.hid (e2 hcc (fun v hv => hS.out rfl v hv))
          have hne : ((cc : Int) == (T : Int)) = false := by simp; omega
          clear e1 e2 hcT
          go_wp2_with fail
          refine bodyPost_ret (v := .tuple #[.slice (some ⟨go, 0, none⟩) T T, .bool false]) (by simp [results, Try.results71, go_sem]) rfl ?_
          exact ⟨go, by rw [HE.out], h, HCE.out, hgz, hle.out, fun hx => by rw [HE.out] at hx; exact Bool.noConfusion hx, HBW.out.trans (hM.out.low.mono HBW.out.size)⟩
      · obtain ⟨WA, rfl⟩ : ∃ WA, WA = wr := ⟨_, rfl⟩
        clear hS
        go_wp2_with fail
        go_loopw [7, 8, 9, 10, 11, 12, 13] (fun c m v _ _ _ _ wr => ∃ (c2 : Nat) (m2 : Bool) (vv : Nat) (K2 : Nat → Bool) (h2 : Nat → Nat), vv ≤ T ∧ c = .int .i64 c2 ∧ m = .bool m2 ∧ v = .int .i64 vv ∧ Hid (Ht n f K2 h2 c2) ∧ Hid (HtM W.heap.size W wr go gk T h2 K2) ∧ Hid (m2 = false → (∀ u, u < vv → stuckAt n f K2 u) ∧ c2 = cc) ∧ Hid (m2 = true → cc < c2)) (fun _ _ v _ _ _ _ _ => T - (intOf v).toNat)
        case atStart => exact ⟨cc, false, 0, K, h, Nat.zero_le _, rfl, rfl, by go_num, hH, hM, fun _ => ⟨fun u hu => absurd hu (Nat.not_lt_zero _), rfl⟩, fun e => Bool.noConfusion e⟩
        case round =>
          obtain ⟨c2, m2, vv, K2, h2, hvT, rfl, rfl, rfl, hH2, hM2, hS2, hC2⟩ := hrel
          by_cases hlt : vv < T
          · obtain ⟨WB, rfl⟩ : ∃ WB, WB = wr := ⟨_, rfl⟩
            obtain ⟨q0, q1⟩ := HK.out WB hM2.out.low
            obtain ⟨k0, k1⟩ := hM2.out.cellK vv hlt
            have hv63 : (vv : Int) ≤ 9223372036854775807 := by omega
            go_wp2_with fail
            go_loopw [10, 11, 12, 13] (fun r s i _ wr => ∃ l : Nat, l ≤ n ∧ i = .int .i64 l ∧ r = .bool (rdB f K2 vv l) ∧ s = .int .i64 (SW.hmx n f h2 vv l : Nat) ∧ wr = WB) (fun _ _ i _ _ => n - (intOf i).toNat)
            case atStart => exact ⟨0, Nat.zero_le _, by go_num, rfl, rfl, rfl⟩
            case round =>
              obtain ⟨l, hl, rfl, rfl, rfl, hww⟩ := hrel
              have hww' := hww.symm
              clear hww
              subst hww'
              have hl63 : (l : Int) ≤ 9223372036854775807 := by omega
              by_cases hll : l < n
              · have t1 := HCC.out WB hM2.out.low vv hlt
                have hpw := wrap_pow (show l ≤ 5 by omega)
                have hbt := and_pow_bit (f vv) l (HF2.out vv hlt) (by omega)
                obtain ⟨hxx, hxT⟩ := HNB.out vv l hlt hll
                have hrd : Hid (rdB f K2 vv (l + 1) = if (f vv).testBit l then rdB f K2 vv l && K2 (vv ^^^ 2 ^ l) else rdB f K2 vv l) := rfl
                have hhm : Hid (SW.hmx n f h2 vv (l + 1) = if (f vv).testBit l then max (SW.hmx n f h2 vv l) (h2 (vv ^^^ 2 ^ l) + 1) else SW.hmx n f h2 vv l) := rfl
                cases hb' : (f vv).testBit l
                · rw [hb'] at hbt hrd hhm
                  simp only [Bool.false_eq_true, if_false] at hbt
                  have hr1 : Hid (rdB f K2 vv (l + 1) = rdB f K2 vv l) := hrd.out
                  have hh1 : Hid (SW.hmx n f h2 vv (l + 1) = SW.hmx n f h2 vv l) := hhm.out
                  clear hb' hrd hhm
                  generalize SW.hmx n f h2 vv l = s at *
                  generalize rdB f K2 vv l = r at *
                  go_wp2_with fail
                  go_roundw
                  case rel => exact ⟨l + 1, by omega, by go_num, by rw [hr1.out], by rw [hh1.out], trivial⟩
                  case measure => simp [intOf]; omega
                · rw [hb'] at hbt hrd hhm
                  simp only [if_true] at hbt
                  have hbn := pow_nz l
                  have hr1 : Hid (rdB f K2 vv (l + 1) = (rdB f K2 vv l && K2 (vv ^^^ 2 ^ l))) := hrd.out
                  have hh1 : Hid (SW.hmx n f h2 vv (l + 1) = max (SW.hmx n f h2 vv l) (h2 (vv ^^^ 2 ^ l) + 1)) := hhm.out
                  clear hb' hrd hhm
                  obtain ⟨X, hX⟩ : ∃ X, vv ^^^ 2 ^ l = X := ⟨_, rfl⟩
                  rw [hX] at hxx hxT hr1 hh1
                  obtain ⟨z0, _⟩ := hM2.out.cellK X hxT
                  obtain ⟨z1, _⟩ := hM2.out.cellO X hxT
                  have hq32 := HLE.out K2 h2 c2 hH2.out X hxT
                  have hc32 := (HFU.out K2 h2 c2 hH2.out).1
                  have hX63 : (X : Int) ≤ 9223372036854775807 := by omega
                  generalize SW.hmx n f h2 vv l = s at *
                  generalize h2 X = q at *
                  generalize K2 X = kx at *
                  have hq63 : (q : Int) + 1 ≤ 9223372036854775807 := by omega
                  generalize rdB f K2 vv l = r at *
                  obtain ⟨Y, hY⟩ : ∃ Y : Int, ((2 ^ l : Nat) : Int) = Y := ⟨_, rfl⟩
                  rw [hY] at hbt hbn
                  clear hX hY hq32 hc32
                  by_cases hgt : (s : Int) > (q : Int) + 1
                  · have hh2 : Hid (max s (q + 1) = s) := by show _ = _; omega
                    cases r
                    · go_wp2_with fail
                      go_roundw
                      case rel => exact ⟨l + 1, by omega, by go_num, by rw [hr1.out]; rfl, by rw [hh1.out, hh2.out], trivial⟩
                      case measure => simp [intOf]; omega
                    · go_wp2_with fail
                      go_roundw
                      case rel => exact ⟨l + 1, by omega, by go_num, by rw [hr1.out]; rfl, by rw [hh1.out, hh2.out], trivial⟩
                      case measure => simp [intOf]; omega
                  · have hh2 : Hid (max s (q + 1) = q + 1) := by show _ = _; omega
                    cases r
                    · go_wp2_with fail
                      go_roundw
                      case rel => exact ⟨l + 1, by omega, by go_num, by rw [hr1.out]; rfl, by rw [hh1.out, hh2.out]; go_num, trivial⟩
                      case measure => simp [intOf]; omega
                    · go_wp2_with fail
                      go_roundw
                      case rel => exact ⟨l + 1, by omega, by go_num, by rw [hr1.out]; rfl, by rw [hh1.out, hh2.out]; go_num, trivial⟩
                      case measure => simp [intOf]; omega
              · obtain rfl : l = n := by omega
                cases hrd : rdB f K2 vv l
                · have hst := Lib.hid (rdB_stuck hrd)
                  clear hrd
                  go_wp2_with fail
                  go_roundw
                  case rel => exact ⟨c2, m2, vv + 1, K2, h2, by omega, rfl, rfl, by go_num, hH2, hM2, fun e => ⟨fun u hu => by
                                by_cases eu : u = vv
                                · subst eu; exact hst.out
                                · exact (hS2.out e).1 u (by omega), (hS2.out e).2⟩, hC2⟩
                  case measure => simp [intOf]; omega
                · have hH3 := Lib.hid (HST.out K2 h2 c2 vv hH2.out hlt hrd)
                  have hM3 := Lib.hid (hM2.out.step vv (SW.hmx l f h2 vv l) hlt hoB)
                  have hc32 := (HFU.out K2 h2 c2 hH2.out).1
                  have hcc2 : cc ≤ c2 := by
                    cases m2
                    · have := (hS2.out rfl).2; omega
                    · have := hC2.out rfl; omega
                  have hC3 : Hid (cc < c2 + 1) := by show _ < _; omega
                  obtain ⟨z0, z1⟩ := hM2.out.cellO vv hlt
                  have hne := hM2.out.ne
                  have y0 : (WB.setCell ⟨gk, vv, none⟩ (.bool true)).cell? ⟨go, vv, none⟩ = some (.int .i64 (h2 vv : Int)) := (World.cell?_of_block (a := ⟨go, vv, none⟩) (heap_setCell_other WB ⟨gk, vv, none⟩ go (.bool true) hne)).trans z0
                  have y1 : (WB.setCell ⟨gk, vv, none⟩ (.bool true)).frozen? ⟨go, vv, none⟩ = false := (World.frozen?_of_block (a := ⟨go, vv, none⟩) (heap_setCell_other WB ⟨gk, vv, none⟩ go (.bool true) hne)).trans z1
                  have hc63 : (c2 : Int) + 1 ≤ 9223372036854775807 := by omega
                  generalize SW.hmx l f h2 vv l = s at *
                  clear hrd z0 z1 hne hcc2
                  go_wp2_with fail
                  go_roundw
                  case rel => exact ⟨c2 + 1, true, vv + 1, _, _, by omega, by go_num, rfl, by go_num, hH3, hM3, fun e => Bool.noConfusion e, fun _ => hC3.out⟩
                  case measure => simp [intOf]; omega
          · obtain rfl : vv = T := by omega
            have hfu := Lib.hid (HFU.out K2 h2 c2 hH2.out).1
            have hMS : Hid (2 * (vv - c2) + bN (.bool m2) < 2 * (vv - cc) + 1) := by
              show _ < _
              have h1 := hfu.out
              cases m2
              · have := (hS2.out rfl).2
                simp [bN]; omega
              · have := hC2.out rfl
                simp [bN]; omega
            go_wp2_with fail
            go_roundw
            case rel => exact ⟨c2, m2, K2, h2, rfl, rfl, hH2, hM2, fun e v hv => (hS2.out e).1 v hv⟩
            case measure => have := hMS.out; simp [intOf, bN]; simp [bN] at this; omega
  · exact ⟨false, false, false, false, false, false, false, 0, 0, by simp, rfl, rfl, ⟨(Below.refl _ _).drew, fun e => (by cases e), fun e => (by cases e), fun e => (by cases e)⟩⟩
  · rintro listed ac w' i oi ⟨b0, b1, b2, b3, b4, b5, b6, go, gk, ⟨e1, e3, e4, e5⟩, rfl, rfl, hR⟩ ho hun hdep
    have hi : i < 7 := by simpa using (Array.getElem?_eq_some_iff.1 ho).1
    obtain rfl | rfl | rfl | rfl | rfl | rfl | rfl : i = 0 ∨ i = 1 ∨ i = 2 ∨ i = 3 ∨ i = 4 ∨ i = 5 ∨ i = 6 := by omega
    · -- 0
      simp only [List.getElem?_toArray, List.getElem?_cons_zero, Option.some.injEq] at ho
      subst ho
      have hbi : b0 = false := by simpa using hun
      subst hbi
      obtain rfl : b1 = false := Bool.eq_false_iff.2 (fun h => Bool.noConfusion (e1 h))
      obtain rfl : b4 = false := Bool.eq_false_iff.2 (fun h => Bool.noConfusion (e4 h))
      refine wpOpIn_step rfl (fun K hK => ?_)
      clear hun hdep hi
      go_simp
      refine hK _ _ ⟨true, false, b2, b3, false, b5, b6, go, gk, ⟨fun h => Bool.noConfusion h, e3, fun h => Bool.noConfusion h, e5⟩, rfl, rfl, hR⟩
    · -- 1
      simp only [List.getElem?_toArray, List.getElem?_cons_succ, List.getElem?_cons_zero, Option.some.injEq] at ho
      subst ho
      have hbi : b1 = false := by simpa using hun
      subst hbi
      have hd0 : b0 = true := by have := hdep ⟨0, .data⟩ (by simp) rfl; simpa using this
      subst hd0
      obtain rfl : b4 = false := Bool.eq_false_iff.2 (fun h => Bool.noConfusion (e4 h))
      refine wpOpIn_step rfl (fun K hK => ?_)
      clear hun hdep hi
      go_simp
      refine hK _ _ ⟨true, true, b2, b3, false, b5, b6, w'.heap.size, gk, ⟨fun _ => rfl, e3, fun h => Bool.noConfusion h, e5⟩, rfl, rfl, hR.mkO HMX.out⟩
    · -- 2
      simp only [List.getElem?_toArray, List.getElem?_cons_succ, List.getElem?_cons_zero, Option.some.injEq] at ho
      subst ho
      have hbi : b2 = false := by simpa using hun
      subst hbi
      obtain rfl : b3 = false := Bool.eq_false_iff.2 (fun h => Bool.noConfusion (e3 h))
      obtain rfl : b5 = false := Bool.eq_false_iff.2 (fun h => Bool.noConfusion (e5 h))
      refine wpOpIn_step rfl (fun K hK => ?_)
      clear hun hdep hi
      go_simp
      refine hK _ _ ⟨b0, b1, true, false, b4, false, b6, go, gk, ⟨e1, fun h => Bool.noConfusion h, e4, fun h => Bool.noConfusion h⟩, rfl, rfl, hR⟩
    · -- 3
      simp only [List.getElem?_toArray, List.getElem?_cons_succ, List.getElem?_cons_zero, Option.some.injEq] at ho
      subst ho
      have hbi : b3 = false := by simpa using hun
      subst hbi
      have hd2 : b2 = true := by have := hdep ⟨2, .data⟩ (by simp) rfl; simpa using this
      subst hd2
      obtain rfl : b5 = false := Bool.eq_false_iff.2 (fun h => Bool.noConfusion (e5 h))
      refine wpOpIn_step rfl (fun K hK => ?_)
      clear hun hdep hi
      go_simp
      refine hK _ _ ⟨b0, b1, true, true, b4, false, b6, go, w'.heap.size, ⟨e1, fun _ => rfl, e4, fun h => Bool.noConfusion h⟩, rfl, rfl, hR.mkK⟩
    · -- 4
      simp only [List.getElem?_toArray, List.getElem?_cons_succ, List.getElem?_cons_zero, Option.some.injEq] at ho
      subst ho
      have hbi : b4 = false := by simpa using hun
      subst hbi
      have hd1 : b1 = true := by have := hdep ⟨1, .data⟩ (by simp) rfl; simpa using this
      have hd0 : b0 = true := (e1 hd1)
      subst hd0 hd1
      refine wpOpIn_step rfl (fun K hK => ?_)
      clear hun hdep hi
      go_simp
      refine hK _ _ ⟨true, true, b2, b3, true, b5, b6, go, gk, ⟨fun _ => rfl, e3, fun _ => rfl, e5⟩, rfl, rfl, hR⟩
    · -- 5
      simp only [List.getElem?_toArray, List.getElem?_cons_succ, List.getElem?_cons_zero, Option.some.injEq] at ho
      subst ho
      have hbi : b5 = false := by simpa using hun
      subst hbi
      have hd3 : b3 = true := by have := hdep ⟨3, .data⟩ (by simp) rfl; simpa using this
      have hd2 : b2 = true := (e3 hd3)
      subst hd2 hd3
      refine wpOpIn_step rfl (fun K hK => ?_)
      clear hun hdep hi
      go_simp
      refine hK _ _ ⟨b0, b1, true, true, b4, true, b6, go, gk, ⟨e1, fun _ => rfl, e4, fun _ => rfl⟩, rfl, rfl, hR⟩
    · -- 6
      simp only [List.getElem?_toArray, List.getElem?_cons_succ, List.getElem?_cons_zero, Option.some.injEq] at ho
      subst ho
      have hbi : b6 = false := by simpa using hun
      subst hbi
      refine wpOpIn_step rfl (fun K hK => ?_)
      clear hun hdep hi
      go_simp
      refine hK _ _ ⟨b0, b1, b2, b3, b4, b5, true, go, gk, ⟨e1, e3, e4, e5⟩, rfl, rfl, hR⟩
end Go.Proofs.Ytlccdnpicfmeaaa.PW
