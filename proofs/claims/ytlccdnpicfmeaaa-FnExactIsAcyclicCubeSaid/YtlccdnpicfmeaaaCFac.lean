/-
  The face of a vertex and a set of directions: its vertices in their order are numbered anew from 0 on.
-/
import Derived.Test.YtlccdnpicfmeaaaCOnes
import Derived.Test.YtlccdnpicfmeaaaCSpc
namespace Go.Proofs.Ytlccdnpicfmeaaa.PW
open Go.RowKit Go.Proofs.Ytlccdnpicfmeaaa
open Go.Proofs.Ytlccdnpicfmeaaa.PM

def faP (v d u : Nat) : Bool := decide (andn (u ^^^ v) d = 0)
def faU (v d k : Nat) : List Nat := (List.range k).filter (faP v d)
theorem faU_yes {v d k : Nat} (h : faP v d k = true) : faU v d (k + 1) = faU v d k ++ [k] := by unfold faU; rw [List.range_succ, List.filter_append]; simp [h]
theorem faU_no {v d k : Nat} (h : faP v d k = false) : faU v d (k + 1) = faU v d k := by unfold faU; rw [List.range_succ, List.filter_append]; simp [h]
theorem face_dec : ∀ v d : Fin 32, ((faU v.val d.val 32).map fun u : Nat => gaI (u : Int) (d.val : Int)) = (List.range (2 ^ (onesTo (d.val : Int) 5).toNat)).map (fun j : Nat => (j : Int)) := by decide +kernel
theorem ones_dec : ∀ d : Fin 32, d.val ≠ 0 → 1 ≤ onesTo (d.val : Int) 5 ∧ onesTo (d.val : Int) 5 ≤ 5 := by decide +kernel
theorem faP_lt {n v d u : Nat} (hv : v < 2 ^ n) (hd : d < 2 ^ n) (h : faP v d u = true) : u < 2 ^ n := by
  have h0 := (SW.inF_iff u v d).2 (of_decide_eq_true h)
  apply Nat.lt_pow_two_of_testBit
  intro i hi
  have e1 : v.testBit i = false := Nat.testBit_lt_two_pow (Nat.lt_of_lt_of_le hv (Nat.pow_le_pow_right (by decide) hi))
  have e2 : d.testBit i = false := Nat.testBit_lt_two_pow (Nat.lt_of_lt_of_le hd (Nat.pow_le_pow_right (by decide) hi))
  cases hu : u.testBit i
  · rfl
  · have := h0 i (by rw [hu, e1]; simp)
    rw [e2] at this
    exact this.symm
theorem faU_add {n v d : Nat} (hv : v < 2 ^ n) (hd : d < 2 ^ n) : ∀ j, faU v d (2 ^ n + j) = faU v d (2 ^ n)
  | 0 => rfl
  | j + 1 => by
    rw [← Nat.add_assoc, faU_no, faU_add hv hd j]
    cases h : faP v d (2 ^ n + j)
    · rfl
    · have := faP_lt hv hd h; omega
theorem faU_pre (v d k : Nat) : ∀ j, ∃ rest, faU v d (k + j) = faU v d k ++ rest
  | 0 => ⟨[], by simp⟩
  | j + 1 => by
    obtain ⟨r, hr⟩ := faU_pre v d k j
    cases h : faP v d (k + j)
    · exact ⟨r, by rw [← Nat.add_assoc, faU_no h, hr]⟩
    · exact ⟨r ++ [k + j], by rw [← Nat.add_assoc, faU_yes h, hr, List.append_assoc]⟩
theorem face_all {n v d : Nat} (hn : n ≤ 5) (hv : v < 2 ^ n) (hd : d < 2 ^ n) : ((faU v d (2 ^ n)).map fun u : Nat => gaI (u : Int) (d : Int)) = (List.range (2 ^ (onesTo (d : Int) 5).toNat)).map (fun j : Nat => (j : Int)) := by
  have h32 := pow_le_32 hn
  have h := face_dec ⟨v, by omega⟩ ⟨d, by omega⟩
  have e := faU_add hv hd (32 - 2 ^ n)
  rw [show 2 ^ n + (32 - 2 ^ n) = 32 by omega] at e
  rw [← e]
  exact h
theorem face_len {n v d : Nat} (hn : n ≤ 5) (hv : v < 2 ^ n) (hd : d < 2 ^ n) : (faU v d (2 ^ n)).length = 2 ^ (onesTo (d : Int) 5).toNat := by
  have := congrArg List.length (face_all hn hv hd)
  simpa using this
theorem face_rank {n v d u : Nat} (hn : n ≤ 5) (hv : v < 2 ^ n) (hd : d < 2 ^ n) (h : faP v d u = true) : gaI (u : Int) (d : Int) = (((faU v d u).length : Nat) : Int) ∧ (faU v d u).length < 2 ^ (onesTo (d : Int) 5).toNat := by
  have hu := faP_lt hv hd h
  obtain ⟨r, hr⟩ := faU_pre v d (u + 1) (2 ^ n - (u + 1))
  rw [show u + 1 + (2 ^ n - (u + 1)) = 2 ^ n by omega, faU_yes h] at hr
  have hA := face_all hn hv hd
  rw [hr] at hA
  have h1 := congrArg (fun l => l[(faU v d u).length]?) hA
  simp only [List.append_assoc, List.map_append, List.map_cons, List.cons_append, List.nil_append] at h1
  rw [List.getElem?_append_right (by simp)] at h1
  simp only [List.length_map, Nat.sub_self, List.getElem?_cons_zero, List.getElem?_map] at h1
  by_cases hlt : (faU v d u).length < 2 ^ (onesTo (d : Int) 5).toNat
  · rw [List.getElem?_range hlt] at h1
    simp at h1
    exact ⟨h1, hlt⟩
  · rw [List.getElem?_eq_none (by simpa using hlt)] at h1
    simp at h1
def faL (O : List Int) (v d k : Nat) : List Int := (faU v d k).map fun u => gaI (O.getD u 0) (d : Int)
theorem faL_yes {O : List Int} {v d k : Nat} (h : faP v d k = true) : faL O v d (k + 1) = faL O v d k ++ [gaI (O.getD k 0) (d : Int)] := by unfold faL; rw [faU_yes h, List.map_append]; rfl
theorem faL_no {O : List Int} {v d k : Nat} (h : faP v d k = false) : faL O v d (k + 1) = faL O v d k := by unfold faL; rw [faU_no h]
theorem faU_le (v d : Nat) : ∀ k, (faU v d k).length ≤ k := fun k => by have := List.length_filter_le (faP v d) (List.range k); unfold faU; simpa using this
def faOut (Dm : Int) (O : List Int) (v d : Int) : (Int × List Int) × Int :=
  if cdOut Dm O [v, d] = 0 then (if d = 0 then ((0, []), 2) else ((onesTo d 5, faL O v.toNat d.toNat O.length), 0)) else ((0, []), cdOut Dm O [v, d])
theorem faOut_no {D : Int} {O : List Int} {v d : Int} (h : cdOut D O [v, d] ≠ 0) : faOut D O v d = ((0, []), cdOut D O [v, d]) := by unfold faOut; rw [if_neg h]
theorem faOut_zero {D : Int} {O : List Int} {v d : Int} (h : cdOut D O [v, d] = 0) (h0 : d = 0) : faOut D O v d = ((0, []), 2) := by unfold faOut; rw [if_pos h, if_pos h0]
theorem faOut_ok {D : Int} {O : List Int} {v d : Int} (h : cdOut D O [v, d] = 0) (h0 : d ≠ 0) : faOut D O v d = ((onesTo d 5, faL O v.toNat d.toNat O.length), 0) := by unfold faOut; rw [if_pos h, if_neg h0]
theorem two_cb {D : Int} {O : List Int} {v d : Int} (h : cdOut D O [v, d] = 0) : ∃ n V E : Nat, D = n ∧ v = V ∧ d = E ∧ isCB n O = true ∧ 1 ≤ n ∧ n ≤ 5 ∧ O.length = 2 ^ n ∧ V < 2 ^ n ∧ E < 2 ^ n := by
  obtain ⟨hc, hin⟩ := cdOut_zero h
  obtain ⟨hd1, hd5, _, _⟩ := isCB_facts hc
  obtain ⟨n, rfl⟩ : ∃ n : Nat, D = (n : Int) := ⟨D.toNat, by omega⟩
  obtain ⟨hl, hl2⟩ := isCB_len hc
  have h1 : inC O v := hin 0 (by simp)
  have h2 : inC O d := hin 1 (by simp)
  unfold inC at h1 h2
  exact ⟨n, v.toNat, d.toNat, rfl, by omega, by omega, hc, by omega, by omega, hl, by omega, by omega⟩
theorem gaS_I64 (x : Int) (p : Int × Nat) (a : Nat) : I64 (gaS x p a).1 := by
  have h1 := bits_lo_i64 BinOp.or p.1 (bits BinOp.and IntKind.i64 (x / 2 ^ a) 1 * 2 ^ p.2)
  have h2 := bits_hi_i64 BinOp.or p.1 (bits BinOp.and IntKind.i64 (x / 2 ^ a) 1 * 2 ^ p.2)
  unfold gaS I64
  dsimp only
  generalize bits BinOp.or IntKind.i64 p.1 (bits BinOp.and IntKind.i64 (x / 2 ^ a) 1 * 2 ^ p.2) = y at *
  omega
theorem gaL_I64 (x : Int) (l : List Nat) : ∀ p : Int × Nat, I64 p.1 → I64 (l.foldl (gaS x) p).1 := by
  induction l with
  | nil => intro p h; exact h
  | cons a l ih => intro p _; rw [List.foldl_cons]; exact ih _ (gaS_I64 x p a)
theorem gaI_I64 (x d : Int) : I64 (gaI x d) := gaL_I64 x _ _ (by unfold I64; decide)
theorem fine_fa (D : Int) (O : List Int) (v d : Int) : FineC (faOut D O v d).1 := by
  by_cases h : cdOut D O [v, d] = 0
  · by_cases h0 : d = 0
    · rw [faOut_zero h h0]; exact ⟨fineI_nil⟩
    · rw [faOut_ok h h0]
      obtain ⟨n, V, E, rfl, rfl, rfl, hc, hn1, hn5, hl, hv, hd⟩ := two_cb h
      clear h
      have h32 := pow_le_32 hn5
      refine ⟨⟨fun x hx => ?_, ?_⟩⟩
      · obtain ⟨u, _, rfl⟩ := List.mem_map.1 hx
        exact gaI_I64 _ _
      · have := faU_le ((V : Int)).toNat ((E : Int)).toNat O.length
        show (faL O _ _ O.length).length ≤ _
        simp [faL]
        simp at this
        omega
  · rw [faOut_no h]; exact ⟨fineI_nil⟩
/-- The variable P holds an orientation whose list has been built so far; the list may be nil yet. -/
structure CbV (B : Nat) (w0 wr : World) (P : Nat) (D : Int) (v : Value) (xs : List Int) : Prop where
  c0 : wr.cell? ⟨P, 0, none⟩ = some (.int .i64 D)
  c1 : wr.cell? ⟨P, 1, none⟩ = some v
  fz : ∀ o, wr.frozen? ⟨P, o, none⟩ = false
  pb : B ≤ P ∧ P < wr.heap.size
  own : RngI B wr.heap.size wr v xs
  ne : v.ownBlock ≠ some P
  low : Below B w0 wr
theorem CbV.keep {B : Nat} {w0 wr w' : World} {P : Nat} {D : Int} {v : Value} {xs : List Int} (h : CbV B w0 wr P D v xs) (hb : Below wr.heap.size wr w') (hB : B ≤ wr.heap.size) : CbV B w0 w' P D v xs := by
  obtain ⟨p1, p2⟩ := h.pb
  have hz := hb.size
  exact ⟨(hb.cell (p := ⟨P, 0, none⟩) p2).trans h.c0, (hb.cell (p := ⟨P, 1, none⟩) p2).trans h.c1, fun o => (hb.frozen (p := ⟨P, o, none⟩) p2).trans (h.fz o), ⟨p1, by omega⟩,
    ⟨h.own.own.below hb (fun b hb' => (h.own.at_ b hb').2), fun b hb' => by have := h.own.at_ b hb'; omega⟩, h.ne, h.low.trans (hb.mono hB)⟩
theorem CbV.next {B : Nat} {w0 W w3 w4 : World} {P : Nat} {D : Int} {v : Value} {n g2 cap2 : Nat} {xs : List Int} {x : Int} (h : CbV B w0 W P D v xs) (hBW : B ≤ W.heap.size) (hn : n = xs.length) (h3 : Below W.heap.size W w3)
    (hown : w4.ownsRow 0 2 1 (.slice (some ⟨g2, 0, none⟩) (n + 1) cap2) (n + 1) (xs.map (Value.int .i64) ++ [.int .i64 x])) (hgr : w3.grownBy w4 v.ownBlock)
    (hat : v.ownBlock = some g2 ∨ g2 = w3.heap.size) (hgl : g2 < w4.heap.size) :
    CbV B w0 (w4.setCell ⟨P, 1, none⟩ (.slice (some ⟨g2, 0, none⟩) (n + 1) cap2)) P D (.slice (some ⟨g2, 0, none⟩) (n + 1) cap2) (xs ++ [x]) := by
  obtain ⟨hp1, hp2⟩ := h.pb
  have z3 := h3.size
  have z4 := hgr.size
  have hg2 : g2 ≠ P ∧ B ≤ g2 := by
    rcases hat with e | e
    · exact ⟨fun c => h.ne (by rw [e, c]), (h.own.at_ _ e).1⟩
    · exact ⟨by omega, by omega⟩
  have hblk := (hgr.block P (by omega) (fun e => h.ne e.symm)).trans (h3.block P hp2)
  have k0 := (World.cell?_of_block (w := W) (a := ⟨P, 0, none⟩) hblk).trans h.c0
  have k1 := (World.cell?_of_block (w := W) (a := ⟨P, 1, none⟩) hblk).trans h.c1
  have kf := fun o => (World.frozen?_of_block (w := W) (a := ⟨P, o, none⟩) hblk).trans (h.fz o)
  refine ⟨by simpa [go_sem] using k0, World.cell?_setCell_same _ _ _ k1, fun o => by simpa using kf o, ⟨hp1, by simp; omega⟩, ⟨?_, fun b hb => by simp [Value.ownBlock] at hb; subst hb; exact ⟨hg2.2, by simpa using hgl⟩⟩, fun c => by simp [Value.ownBlock] at c; exact hg2.1 c, ?_⟩
  · have h1 : OwnI w4 (.slice (some ⟨g2, 0, none⟩) (n + 1) cap2) (xs ++ [x]) := by
      have := own_base' hown
      unfold OwnI
      subst hn
      simpa using this
    exact h1.tch ((Tch.refl [P] _).setCell (by simp) _) (fun b hb c => by simp [Value.ownBlock] at hb c; exact hg2.1 (by rw [hb, c]))
  · refine Below.setCell ?_ hp1 _
    exact (h.low.trans (h3.mono hBW)).grown hgr (by omega) (fun b hb => (h.own.at_ b hb).1)
end Go.Proofs.Ytlccdnpicfmeaaa.PW
