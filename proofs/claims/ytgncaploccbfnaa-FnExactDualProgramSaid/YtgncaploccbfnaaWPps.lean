/-
  ProgramProblem: the model's side. The problem of a program is built behind a variable: a copied row with numbers appended for each number of the program, then a copied row with zeros appended for each demand.
-/
import Derived.Test.YtgncaploccbfnaaWPpm
import Derived.Test.YtgncaploccbfnaaWZer
import Derived.Test.YtgncaploccbfnaaPPg
import Derived.BigQuiet
namespace Go.Proofs.Ytgncaploccbfnaa.PW
open Go.RowKit Go.Proofs.Ytgncaploccbfnaa
open Go.Proofs.Ytgncaploccbfnaa.PM
attribute [local go_sem] Oper.semAt_some

/-- Where a table lies, with its rows as lists. -/
def RowsW (w : World) (b off k l : Nat) (T : List (List Int)) : Prop :=
  ∀ i, i < k → ∃ r o d, r < w.heap.size ∧ w.cell? ⟨b, off + i, none⟩ = some (.slice (some ⟨r, o, none⟩) l d) ∧ Ints w (.slice (some ⟨r, o, none⟩) l d) (T.getD i []) ∧ ∀ j, j < l → w.cell? ⟨r, o + j, none⟩ = some (.int .i64 (wE T i j))
theorem rowsW_at {w : World} {v : Value} {M : List (List Int)} {l : Nat} (h : PM.Rows w v M) (h1 : 1 ≤ M.length) (hl1 : 1 ≤ l) (hl : ∀ i, i < M.length → (M.getD i []).length = l) :
    ∃ b off c, v = .slice (some ⟨b, off, none⟩) M.length c ∧ b < w.heap.size ∧ RowsW w b off M.length l M := by
  obtain ⟨b, off, c, rfl, hb, _, hr⟩ := wrows_at h h1
  refine ⟨b, off, c, rfl, hb, fun i hi => ?_⟩
  obtain ⟨u, hu, hi2⟩ := hr i hi
  have hil := hl i hi
  obtain ⟨r, o, d, rfl, hlt, hcs⟩ := wints_row hi2 (by omega)
  rw [hil] at hu hi2
  exact ⟨r, o, d, hlt, hu, hi2, fun j hj => hcs j (by omega)⟩
theorem pgG_startQ {w w2 : World} {q : Value} {S : List Int} (hf : FreshI (w.heap.size + 1) w2 q S) (hb : Below (w.heap.size + 1) (w.alloc (.cells #[] 23)) w2) :
    PgG w.heap.size (w2.alloc (.cells #[.slice (some ⟨w.heap.size, 0, none⟩) 0 0, q] 27)) w2.heap.size (.slice (some ⟨w.heap.size, 0, none⟩) 0 0) q [] S [] := by
  obtain ⟨gq, cq, rfl, h1, h2, ho⟩ := hf
  have hz := hb.size
  simp at hz
  have hb' : Below (w.alloc (.cells #[] 23)).heap.size (w.alloc (.cells #[] 23)) (w2.alloc (.cells #[.slice (some ⟨w.heap.size, 0, none⟩) 0 0, .slice (some ⟨gq, 0, none⟩) S.length cq] 27)) := by
    have e : (w.alloc (.cells #[] 23)).heap.size = w.heap.size + 1 := by simp
    rw [e]
    exact hb.alloc (by omega) _
  have hR := (freshR_nil w).below hb'
  have ha : Below w2.heap.size w2 (w2.alloc (.cells #[.slice (some ⟨w.heap.size, 0, none⟩) 0 0, .slice (some ⟨gq, 0, none⟩) S.length cq] 27)) := (Below.refl _ _).alloc (Nat.le_refl _) _
  refine ⟨hR.ownRs, own_keep ho (fun b hb => ha.block b (by simp [Value.ownBlock] at hb; omega)), fun b hb => ?_, fun i b hi => absurd hi (Nat.not_lt_zero _), by simp [go_sem], by simp [go_sem], fun o => by simp [go_sem], by simp, ?_, ?_, fun i hi => absurd hi (Nat.not_lt_zero _), by omega⟩
  · simp [Value.ownBlock] at hb; simp; omega
  · simp [Value.ownBlock]; omega
  · simp [Value.ownBlock]; omega
theorem pgG_low {wr W3 W4 w : World} {N B o : Nat} {row : Option Nat} {y : Value} (hB : Below B w wr) (hBN : B ≤ N) (hN : N < wr.heap.size) (hb : Below wr.heap.size wr W3) (hgrow : W3.grownBy W4 row) (hr : ∀ b, row = some b → B ≤ b) : Below B w (W4.setCell ⟨N, o, none⟩ y) :=
  ((hB.trans (hb.mono (by omega))).grown hgrow (by have := hb.size; omega) hr).setCell (p := ⟨N, o, none⟩) hBN y
/-- The first k rows of n numbers each. -/
def grows (g : Nat → Nat → Int) (n k : Nat) : List (List Int) := (List.range k).map fun a => (List.range n).map (g a)
theorem grows_length (g : Nat → Nat → Int) (n k : Nat) : (grows g n k).length = k := by simp [grows]
theorem grows_snoc (g : Nat → Nat → Int) (n k : Nat) : grows g n (k + 1) = grows g n k ++ [(List.range n).map (g k)] := by unfold grows; rw [List.range_succ, List.map_append]; rfl
theorem rowTo_snoc (f : Nat → Int) (k : Nat) : (List.range (k + 1)).map f = (List.range k).map f ++ [f k] := by rw [List.range_succ, List.map_append]; rfl
theorem rowTo_length (f : Nat → Int) (k : Nat) : ((List.range k).map f).length = k := by simp
/-- The right side after k demands. -/
def ppQk (C B : List Int) (k : Nat) : List Int := C ++ (B.take k).map fun x => -x
theorem ppQk_length {C B : List Int} {k : Nat} (h : k ≤ B.length) : (ppQk C B k).length = C.length + k := by unfold ppQk; simp; omega
theorem ppQk_zero (C B : List Int) : ppQk C B 0 = C := by simp [ppQk]
theorem ppQk_all (C B : List Int) : ppQk C B B.length = ppQ C B := by simp [ppQk, ppQ]
theorem ppQk_snoc {C B : List Int} {k : Nat} (h : k < B.length) : ppQk C B (k + 1) = ppQk C B k ++ [-(B.getD k 0)] := by
  unfold ppQk
  rw [List.take_add_one, List.map_append, ← List.append_assoc]
  congr 1
  simp [List.getElem?_eq_getElem h]
theorem ppG_rowD {D A : List (List Int)} {n i : Nat} (hi : i < n) (hl : (D.getD i []).length = n) : (List.range n).map (ppG D A n i) = D.getD i [] := by
  apply List.ext_getElem (by simp; exact hl.symm)
  intro j h1 h2
  have hj : j < n := by simpa using h1
  have : ppG D A n i j = wE D i j := by unfold ppG; rw [if_pos hi, if_pos hj]
  simp only [List.getElem_map, List.getElem_range, this]
  unfold wE
  rw [List.getD_eq_getElem?_getD, List.getElem?_eq_getElem h2, Option.getD_some]
theorem ppG_D2 {D A : List (List Int)} {n i j : Nat} (hi : i < n) : ppG D A n i (n + j) = - wE A j i := by
  unfold ppG
  rw [if_pos hi, if_neg (by omega), Nat.add_sub_cancel_left]
theorem ppG_rowA {D A : List (List Int)} {n m j : Nat} (hl : (A.getD j []).length = n) : (List.range (n + m)).map (ppG D A n (n + j)) = A.getD j [] ++ List.replicate m 0 := by
  apply List.ext_getElem (by rw [List.length_append, hl]; simp)
  intro k h1 h2
  have hk : k < n + m := by simpa using h1
  simp only [List.getElem_map, List.getElem_range]
  unfold ppG
  rw [if_neg (by omega)]
  by_cases hkn : k < n
  · rw [if_pos hkn, Nat.add_sub_cancel_left, List.getElem_append_left (by omega)]
    unfold wE
    rw [List.getD_eq_getElem?_getD (l := A.getD j []), List.getElem?_eq_getElem (by omega), Option.getD_some]
  · rw [if_neg hkn, List.getElem_append_right (by omega)]
    simp

/-- While a copied row with zeros appended is appended to the rows of a problem behind a variable. -/
structure PzR (wB W w' : World) (B N a m k : Nat) (v q : Value) (R : List (List Int)) (S As : List Int) (us : List Value) (v' : Value) (gr cr gz cz h : Nat) (b7 b9 b10 b11 b13 : Bool) : Prop where
  low : b11 = false → Below W.heap.size W w'
  own : b7 = true → b9 = false → FreshI W.heap.size w' (.slice (some ⟨gr, 0, none⟩) a cr) As
  zer : b9 = true → b11 = false → FreshI W.heap.size w' (.slice (some ⟨gz, 0, none⟩) (a + m) cz) (As ++ List.replicate m 0)
  box : b10 = true → b11 = false → w'.cell? ⟨h, 0, none⟩ = some (.slice (some ⟨gz, 0, none⟩) (a + m) cz)
  app : b11 = true → b13 = false → ∃ w3 g2 cap, v' = .slice (some ⟨g2, 0, none⟩) (k + 1) cap ∧ Below W.heap.size W w3 ∧ FreshI W.heap.size w3 (.slice (some ⟨gz, 0, none⟩) (a + m) cz) (As ++ List.replicate m 0) ∧
    w'.ownsRow 0 23 1 (.slice (some ⟨g2, 0, none⟩) (k + 1) cap) (k + 1) (us ++ [.slice (some ⟨gz, 0, none⟩) (a + m) cz]) ∧ w3.grownBy w' v.ownBlock ∧ (v.ownBlock = some g2 ∨ g2 = w3.heap.size)
  fin : b13 = true → PgG B w' N v' q (R ++ [As ++ List.replicate m 0]) S (us ++ [.slice (some ⟨gz, 0, none⟩) (a + m) cz]) ∧ Below B wB w'
section
variable {wB W w' w'' : World} {B N a m k : Nat} {v q v' : Value} {R : List (List Int)} {S As : List Int} {us : List Value} {gr cr gz cz h : Nat}
theorem PzR.call (hR : PzR wB W w' B N a m k v q R S As us v' gr cr gz cz h false false false false false) {g c : Nat} (hf : FreshI w'.heap.size w'' (.slice (some ⟨g, 0, none⟩) a c) As) (hb : Below w'.heap.size w' w'') :
    PzR wB W w'' B N a m k v q R S As us v' g c gz cz h true false false false false :=
  have hl := hR.low rfl
  ⟨fun _ => hl.trans (hb.mono hl.size), fun _ _ => hf.mono hl.size, fun e => Bool.noConfusion e, fun e => Bool.noConfusion e, fun e => Bool.noConfusion e, fun e => Bool.noConfusion e⟩
theorem PzR.zero_ (hR : PzR wB W w' B N a m k v q R S As us v' gr cr gz cz h true false false false false) (hl : As.length = a) {g c : Nat}
    (hown : w''.ownsRow 0 2 1 (.slice (some ⟨g, 0, none⟩) (a + m) c) (a + m) (As.map (Value.int .i64) ++ List.replicate m (.int .i64 0))) (hgrow : w'.grownBy w'' (Value.slice (some ⟨gr, 0, none⟩) a cr).ownBlock)
    (hat : (Value.slice (some ⟨gr, 0, none⟩) a cr).ownBlock = some g ∨ g = w'.heap.size) (hgl : g < w''.heap.size) :
    PzR wB W w'' B N a m k v q R S As us v' gr cr g c h true true false false false := by
  have hlo := hR.low rfl
  obtain ⟨g0, c0, hv, h1, h2, _⟩ := hR.own rfl rfl
  simp only [Value.slice.injEq, Option.some.injEq, Addr.mk.injEq, and_true] at hv
  obtain ⟨rfl, _, rfl⟩ := hv
  have hs := hlo.size
  refine ⟨fun _ => hlo.grown hgrow hlo.size (fun b hb => by simp [Value.ownBlock] at hb; omega), fun _ e => Bool.noConfusion e, fun _ _ => ⟨g, c, by simp [hl], ?_, hgl, ?_⟩, fun e => Bool.noConfusion e, fun e => Bool.noConfusion e, fun e => Bool.noConfusion e⟩
  · rcases hat with e | e
    · simp [Value.ownBlock] at e; omega
    · omega
  · unfold OwnI
    simpa [hl] using hown
theorem PzR.box_ (hR : PzR wB W w' B N a m k v q R S As us v' gr cr gz cz h true true false false false) :
    PzR wB W (w'.alloc (.cells #[.slice (some ⟨gz, 0, none⟩) (a + m) cz] 23)) B N a m k v q R S As us v' gr cr gz cz w'.heap.size true true true false false :=
  have hl := hR.low rfl
  have ha : Below w'.heap.size w' (w'.alloc (.cells #[.slice (some ⟨gz, 0, none⟩) (a + m) cz] 23)) := (Below.refl _ _).alloc (Nat.le_refl _) _
  ⟨fun _ => hl.trans (ha.mono hl.size), fun _ e => Bool.noConfusion e, fun _ _ => (hR.zer rfl rfl).below ha, fun _ _ => by simp, fun e => Bool.noConfusion e, fun e => Bool.noConfusion e⟩
theorem PzR.app_ (hR : PzR wB W w' B N a m k v q R S As us v' gr cr gz cz h true true true false false) {g2 cap : Nat} (hown : w''.ownsRow 0 23 1 (.slice (some ⟨g2, 0, none⟩) (k + 1) cap) (k + 1) (us ++ [.slice (some ⟨gz, 0, none⟩) (a + m) cz]))
    (hgrow : w'.grownBy w'' v.ownBlock) (hat : v.ownBlock = some g2 ∨ g2 = w'.heap.size) :
    PzR wB W w'' B N a m k v q R S As us (.slice (some ⟨g2, 0, none⟩) (k + 1) cap) gr cr gz cz h true true true true false :=
  ⟨fun e => Bool.noConfusion e, fun _ e => Bool.noConfusion e, fun _ e => Bool.noConfusion e, fun _ e => Bool.noConfusion e, fun _ _ => ⟨w', g2, cap, rfl, hR.low rfl, hR.zer rfl rfl, hown, hgrow, hat⟩, fun e => Bool.noConfusion e⟩
theorem PzR.store_ {g2 cap : Nat} (hR : PzR wB W w' B N a m k v q R S As us (.slice (some ⟨g2, 0, none⟩) (k + 1) cap) gr cr gz cz h true true true true false) (hP : PgG B W N v q R S us) (hk : R.length = k) (hwB : Below B wB W) :
    PzR wB W (w'.setCell ⟨N, 0, none⟩ (.slice (some ⟨g2, 0, none⟩) (k + 1) cap)) B N a m k v q R S As us (.slice (some ⟨g2, 0, none⟩) (k + 1) cap) gr cr gz cz h true true true true true := by
  obtain ⟨w3, g3, cap3, hv, hlow, hf, hown, hgrow, hat⟩ := hR.app rfl rfl
  simp only [Value.slice.injEq, Option.some.injEq, Addr.mk.injEq, and_true, true_and] at hv
  obtain ⟨rfl, rfl⟩ := hv
  exact ⟨fun e => Bool.noConfusion e, fun _ e => Bool.noConfusion e, fun _ e => Bool.noConfusion e, fun _ e => Bool.noConfusion e, fun _ e => Bool.noConfusion e, fun _ => ⟨hP.rowF hlow hf (Nat.le_refl _) hk hown hgrow hat, pgG_low hwB hP.BN hP.lt hlow hgrow (fun b hb => (hP.rows.mb b hb).1)⟩⟩
end
/-- While a number is appended to the list of a problem behind a variable. -/
structure PwR (wB W w' : World) (B N k : Nat) (v q : Value) (R : List (List Int)) (S : List Int) (x : Int) (us : List Value) (q' : Value) (h : Nat) (b1 b2 b3 : Bool) : Prop where
  low : b2 = false → Below W.heap.size W w'
  box : b1 = true → b2 = false → w'.cell? ⟨h, 0, none⟩ = some (.int .i64 x)
  app : b2 = true → b3 = false → ∃ w3 g2 cap, q' = .slice (some ⟨g2, 0, none⟩) (k + 1) cap ∧ Below W.heap.size W w3 ∧ w'.ownsRow 0 2 1 (.slice (some ⟨g2, 0, none⟩) (k + 1) cap) (k + 1) (S.map (Value.int .i64) ++ [.int .i64 x]) ∧
    w3.grownBy w' q.ownBlock ∧ (q.ownBlock = some g2 ∨ g2 = w3.heap.size) ∧ g2 < w'.heap.size
  fin : b3 = true → PgG B w' N v q' R (S ++ [x]) us ∧ Below B wB w'
section
variable {wB W w' w'' : World} {B N k h : Nat} {v q q' : Value} {R : List (List Int)} {S : List Int} {x : Int} {us : List Value}
theorem PwR.box_ (hR : PwR wB W w' B N k v q R S x us q' h false false false) : PwR wB W (w'.alloc (.cells #[.int .i64 x] 2)) B N k v q R S x us q' w'.heap.size true false false :=
  ⟨fun _ => (hR.low rfl).trans (((Below.refl _ _).alloc (Nat.le_refl _) _).mono (hR.low rfl).size), fun _ _ => by simp, fun e => Bool.noConfusion e, fun e => Bool.noConfusion e⟩
theorem PwR.app_ {g2 cap : Nat} (hR : PwR wB W w' B N k v q R S x us q' h true false false) (hown : w''.ownsRow 0 2 1 (.slice (some ⟨g2, 0, none⟩) (k + 1) cap) (k + 1) (S.map (Value.int .i64) ++ [.int .i64 x])) (hgrow : w'.grownBy w'' q.ownBlock) (hat : q.ownBlock = some g2 ∨ g2 = w'.heap.size) (hgl : g2 < w''.heap.size) :
    PwR wB W w'' B N k v q R S x us (.slice (some ⟨g2, 0, none⟩) (k + 1) cap) h true true false :=
  ⟨fun e => Bool.noConfusion e, fun _ e => Bool.noConfusion e, fun _ _ => ⟨w', g2, cap, rfl, hR.low rfl, hown, hgrow, hat, hgl⟩, fun e => Bool.noConfusion e⟩
theorem PwR.store_ {g2 cap : Nat} (hR : PwR wB W w' B N k v q R S x us (.slice (some ⟨g2, 0, none⟩) (k + 1) cap) h true true false) (hP : PgG B W N v q R S us) (hk : S.length = k) (hwB : Below B wB W) :
    PwR wB W (w'.setCell ⟨N, 1, none⟩ (.slice (some ⟨g2, 0, none⟩) (k + 1) cap)) B N k v q R S x us (.slice (some ⟨g2, 0, none⟩) (k + 1) cap) h true true true := by
  obtain ⟨w3, g3, cap3, hv, hlow, hown, hgrow, hat, hgl⟩ := hR.app rfl rfl
  simp only [Value.slice.injEq, Option.some.injEq, Addr.mk.injEq, and_true, true_and] at hv
  obtain ⟨rfl, rfl⟩ := hv
  exact ⟨fun e => Bool.noConfusion e, fun _ e => Bool.noConfusion e, fun _ e => Bool.noConfusion e, fun _ => ⟨hP.numF hlow hk hown hgrow hat hgl, pgG_low hwB hP.BN hP.lt hlow hgrow (fun b hb => (hP.qb b hb).1)⟩⟩
end

set_option maxRecDepth 100000 in
set_option maxHeartbeats 8000000 in
theorem l09Problem_any (d c a b : Value) (D : List (List Int)) (C : List Int) (A : List (List Int)) (B : List Int) (w : World) (h1 : PM.Rows w d D) (h2 : Ints w c C) (h3 : PM.Rows w a A) (h4 : Ints w b B) (hc : isWB D C A B = true) :
    Calls Try.prog 96 #[.agg #[d, c, a, b]] w fun e w' => ∃ (av : Option Addr) (cv : Nat) (aq : Option Addr) (cq : Nat) (us : List Value), e = .returned (.agg #[.slice av (C.length + B.length) cv, .slice aq (C.length + B.length) cq]) ∧ OwnP w.heap.size w' (.slice av (C.length + B.length) cv) (.slice aq (C.length + B.length) cq) (tab (C.length + B.length) (ppG D A C.length)) (ppQ C B) us ∧ Below w.heap.size w w' := by
  have hmx : Try.prog.follows .mixedOrders = true := by kernel_rfl
  have hW := (isWB_is D C A B).1 hc
  obtain ⟨BD, off, cd, rfl, hBD, hTD⟩ := rowsW_at (l := C.length) h1 (by rw [hW.d]; exact hW.n1) hW.n1 (fun i hi => hW.dr i (by rw [← hW.d]; exact hi))
  rw [hW.d] at hTD ⊢
  have hTA : 1 ≤ B.length → ∃ b2 off2 c2, a = .slice (some ⟨b2, off2, none⟩) B.length c2 ∧ b2 < w.heap.size ∧ RowsW w b2 off2 B.length C.length A := fun hm => by
    obtain ⟨b2, off2, c2, e, hb, h⟩ := rowsW_at (l := C.length) h3 (by rw [hW.a]; exact hm) hW.n1 (fun i hi => hW.ar i (by rw [← hW.a]; exact hi))
    rw [hW.a] at e h
    exact ⟨b2, off2, c2, e, hb, h⟩
  have hTB : 1 ≤ B.length → ∃ b2 off2 c2, b = .slice (some ⟨b2, off2, none⟩) B.length c2 ∧ b2 < w.heap.size ∧ CellsAt w b2 off2 B := fun hm => wints_row h4 hm
  have HOC := Lib.hid (fun (w' : World) (h : Below w.heap.size w w') => l01Own_any c C w' (h2.below h) (fun e => by have := hW.n1; rw [e] at this; simp at this) (by have := hW.n5; omega))
  obtain ⟨x2, y2, rfl, _⟩ := h2
  obtain ⟨x3, y3, hx3, _⟩ := h3
  rw [hW.a] at hx3
  subst hx3
  obtain ⟨x4, y4, rfl, _⟩ := h4
  have HDR := Lib.hid (fun i (hi : i < C.length) => ppG_rowD (D := D) (A := A) (n := C.length) hi (hW.dr i hi))
  have HD2 := Lib.hid (fun i j (hi : i < C.length) => ppG_D2 (D := D) (A := A) (n := C.length) (i := i) (j := j) hi)
  have HAR := Lib.hid (fun j (hj : j < B.length) => ppG_rowA (D := D) (A := A) (n := C.length) (m := B.length) (j := j) (hW.ar j hj))
  have HAL := Lib.hid hW.ar
  have HDL := Lib.hid hW.dr
  have HAK := Lib.hid hW.ak
  have HBK := Lib.hid hW.b
  have HQZ := Lib.hid (ppQk_zero C B)
  have HQA := Lib.hid (ppQk_all C B)
  have HQL := Lib.hid (fun k (h : k ≤ B.length) => ppQk_length (C := C) (B := B) h)
  have HQS := Lib.hid (fun k (h : k < B.length) => ppQk_snoc (C := C) (B := B) h)
  have hn1 := hW.n1
  have hn5 := hW.n5
  have HTD := Lib.hid hTD
  have HTA := Lib.hid hTA
  have HTB := Lib.hid hTB
  have HBL : Hid (B.length = B.length) := rfl
  clear h1 hc hW hTD hTA hTB
  generalize ppQk C B = Qk at *
  generalize ppQ C B = QQ at *
  generalize ppG D A C.length = g at *
  obtain ⟨n, hn⟩ : ∃ n, n = C.length := ⟨_, rfl⟩
  obtain ⟨m, hm⟩ : ∃ m, m = B.length := ⟨_, rfl⟩
  rw [← hn] at HTD HTA HDR HD2 HAR HAL HDL HAK HQL hn1 hn5 ⊢
  rw [← hm] at HTA HTB HAR HAL HAK HBK HQA HQL HQS hn5 ⊢
  have HCL := Lib.hid hn
  have HML := Lib.hid hm
  clear hn hm HBL
  obtain ⟨W0, hW0⟩ : ∃ W0, W0 = (w.alloc (.cells #[.slice (some ⟨BD, off, none⟩) n cd, .slice x2 n y2, .slice x3 m y3, .slice x4 m y4] 54)).alloc (.cells #[.slice none 0 0, .slice none 0 0] 27) := ⟨_, rfl⟩
  have hg0 : Wp w W0 (.slice (some ⟨BD, off, none⟩) n cd) (.slice x2 n y2) (.slice x3 m y3) (.slice x4 m y4) := by rw [hW0]; exact wp_new _ _ _ _ _ _ _
  have HG0 := Lib.hid hg0
  have HW0 := Lib.hid hW0
  have k1 := hg0.k1
  have k3 := hg0.k3
  clear hg0 hW0
  obtain ⟨i0, hi', hzz0, hzz1, hzz2⟩ := info_parts info_ints
  obtain ⟨j0, hj', hyy0, hyy1, hyy2⟩ := info_parts info_int
  rw [← HCL.out] at HOC
  go_enter Try.func96, Try.ntmps96
  go_wp2_with fail
  rw [← HW0.out]
  go_quiet (fail)
  obtain ⟨W1, hW1⟩ : ∃ W1, W1 = W0.drewN nq := ⟨_, rfl⟩
  have hb01 : Below W0.heap.size W0 W1 := by rw [hW1]; exact below_drewN (Below.refl _ _) _
  rw [← hW1]
  have hg1 := HG0.out.next hb01
  have HGC := Lib.hid hg1
  have hs1 := hg1.z
  have hs1' : w.heap.size < W1.heap.size := by omega
  have k1 := hg1.k1
  clear hb01 hW1 hg1 HW0 HG0 k3
  go_wp2_with fail
  refine (HOC.out _ (HGC.out.b.alloc HGC.out.b.size _)).mono ?_; rintro e w2 ⟨u, rfl, hf, hb2⟩
  rw [show (W1.alloc (.cells #[] 23)).heap.size = W1.heap.size + 1 by simp] at hf hb2
  have hps := pgG_startQ hf hb2
  obtain ⟨gu, cu, rfl, hgu1, hgu2, hguo⟩ := hf
  rw [← HCL.out] at hps ⊢
  have hz2 := hb2.size
  simp at hz2
  have hbs : Below W1.heap.size W1 (w2.alloc (.cells #[.slice (some ⟨W1.heap.size, 0, none⟩) 0 0, .slice (some ⟨gu, 0, none⟩) n cu] 27)) := (((Below.refl W1.heap.size W1).alloc (Nat.le_refl _) (.cells #[] 23)).trans (hb2.mono (by omega))).alloc (by omega) _
  have HPS := Lib.hid hps
  have HBS := Lib.hid hbs
  clear hps hbs hguo hb2 k1
  go_wp2_with fail
  obtain ⟨X, hX⟩ : ∃ X, X = W1.heap.size := ⟨_, rfl⟩
  obtain ⟨N, hN⟩ : ∃ N, N = w2.heap.size := ⟨_, rfl⟩
  rw [← hX] at HPS HBS hs1 hs1' ⊢
  rw [← hN] at HPS ⊢
  have HX := Lib.hid hX
  clear hX hN hz2 hgu1 hgu2
  go_loopw [6, 7, 8] (fun i _ _ wr => ∃ (a : Nat) (v q : Value) (us : List Value), a ≤ n ∧ i = .int .i64 a ∧ PgG X wr N v q (grows g (n + m) a) C us ∧ Below X W1 wr) (fun i _ _ _ => n - (intOf i).toNat)
  case atStart => exact ⟨0, _, _, [], Nat.zero_le _, rfl, HPS.out, HBS.out⟩
  case round =>
    obtain ⟨a, v, q, us, ha, rfl, hP, hB⟩ := hrel
    obtain ⟨Wr, rfl⟩ : ∃ Wr, Wr = wr := ⟨_, rfl⟩
    have HPG := Lib.hid hP
    have HB := Lib.hid hB
    have hB' := hB
    rw [HX.out] at hB'
    have hg2 := HGC.out.next hB'
    clear hB'
    have HG2 := Lib.hid hg2
    by_cases hlt : a < n
    · obtain ⟨r, o, d, hr, t1, t2, _⟩ := HTD.out a hlt
      have hwr := hg2.b
      have k0 := hg2.k0
      have t1 := (hwr.cell (p := ⟨BD, off + a, none⟩) hBD).trans t1
      have HR := Lib.hid (t2.below hwr)
      have hkm : (a : Int) < n := by omega
      have hdl := HDL.out a hlt
      have hdr := HDR.out a hlt
      have hXr : X ≤ Wr.heap.size := Nat.le_trans (by have := HX.out; omega) hB.size
      have HXR := Lib.hid hXr
      have HOW := Lib.hid (l01Own_any _ _ Wr HR.out (fun e => by rw [e] at hdl; simp at hdl; omega) (by omega))
      rw [← hdr] at HOW
      clear hP hB hg2 hr t2 hwr HR hXr hdl hdr
      go_wp2_with fail
      refine HOW.out.mono ?_; rintro e w3 ⟨u3, rfl, hf3, hb3⟩
      have HF3 := Lib.hid hf3
      have HB3 := Lib.hid hb3
      clear hf3 hb3 HOW k0 t1
      go_wp2_with fail
      go_loopw [7, 8] (fun v c wi => ∃ j : Nat, j ≤ m ∧ c = .int .i64 j ∧ FreshI Wr.heap.size wi v ((List.range (n + j)).map (g a)) ∧ Below Wr.heap.size Wr wi) (fun _ c _ => m - (intOf c).toNat)
      case atStart => exact ⟨0, Nat.zero_le _, rfl, HF3.out, HB3.out⟩
      case round =>
        obtain ⟨j, hjm, rfl, hF, hBi⟩ := hrel
        by_cases hltj : j < m
        · obtain ⟨b2, off2, c2, e3, hb2', hTA2⟩ := HTA.out (by omega)
          simp only [Value.slice.injEq, true_and] at e3
          obtain ⟨rfl, rfl⟩ := e3
          obtain ⟨r, o, d, hr, s1, _, s2⟩ := hTA2 j hltj
          have s2 := s2 a hlt
          have hg3 := HG2.out.next hBi
          have hwi := hg3.b
          have q2 := hg3.k2
          have s1 := (hwi.cell (p := ⟨b2, off2 + j, none⟩) hb2').trans s1
          have s2 := (hwi.cell (p := ⟨r, o + a, none⟩) hr).trans s2
          have hx := HAK.out j hltj a hlt
          have hgx := HD2.out a j hlt
          have how := hF.owns
          rw [rowTo_length] at how
          have HOW := Lib.hid how
          have HF := Lib.hid hF
          have HBI := Lib.hid hBi
          have hjl : (j : Int) < m := by omega
          have hnj := Lib.hid (rowTo_snoc (g a) (n + j))
          have HGX := Lib.hid hgx
          have hL : n + j ≤ 100 := by omega
          have HL : Hid (((List.range (n + j)).map (g a)).length = n + j) := rowTo_length _ _
          clear hF hBi hg3 hwi how hTA2 hgx hr
          generalize wE A j a = x at *
          obtain ⟨L, hLL⟩ : ∃ L, L = n + j := ⟨_, rfl⟩
          rw [← hLL] at HOW HF hnj HGX hL HL
          have HLL := Lib.hid hLL
          clear hLL
          go_wp2_with (at_builtin; refine wpList_append_lies _ rfl _ _ 23 rfl 0 2 j0 (.int .i64 0) 1 8 Try.underlying23 hj' hyy0 hyy1 hyy2 rfl (by decide) u7 L _ rfl ((HOW.out).alloc _) _ 1 _ [.int .i64 (- x)] rfl rfl (cell_one_new _ _ _) (by simp [Value.oneCell']) (by decide) (by unfold maxLen; omega) (by omega) (Nat.zero_le _) _ rfl ?_; intro gg cap w5 hown hgrow hat hgl)
          have hpu := HF.out.push HBI.out.size HL.out.symm hown hat hgl
          have hgr := HF.out.grow HBI.out HBI.out.size hgrow
          rw [← HGX.out, ← hnj.out] at hpu
          have HPU := Lib.hid hpu
          have HGR := Lib.hid hgr
          clear hpu hgr hown hgrow hat hgl
          go_wp2_with fail
          go_roundw
          case rel => exact ⟨j + 1, by omega, by go_num, by rw [show n + (j + 1) = L + 1 by have := HLL.out; omega]; exact HPU.out, HGR.out⟩
          case measure => simp [intOf]; omega
        · obtain rfl : j = m := by omega
          obtain ⟨gr, cr, rfl, _⟩ := id hF
          rw [rowTo_length] at hF ⊢
          have HROW := Lib.hid hF
          have HWI := Lib.hid hBi
          have hzW := hBi.size
          have n0 := (hBi.cell (p := ⟨N, 0, none⟩) HPG.out.lt).trans HPG.out.c1
          have HGS := Lib.hid (grows_snoc g (n + j) a)
          have HGL := Lib.hid (grows_length g (n + j) a)
          obtain ⟨R, hR⟩ : ∃ R, R = (List.range (n + j)).map (g a) := ⟨_, rfl⟩
          obtain ⟨L, hLL⟩ : ∃ L, L = n + j := ⟨_, rfl⟩
          rw [← hR] at HROW HGS
          rw [← hLL] at HROW HPG HGS HGL ⊢
          have HLL2 := Lib.hid hLL
          clear hF hBi hR hLL
          go_wp2_with (at_builtin; refine wpList_append_lies _ rfl _ _ 22 rfl 0 23 i0 (.slice none 0 0) 1 24 Try.underlying22 hi' hzz0 hzz1 hzz2 rfl (by decide) v a us rfl (HPG.out.ownV (HWI.out.alloc HWI.out.size _) HGL.out) _ 1 _ [.slice (some ⟨gr, 0, none⟩) L cr] rfl rfl (cell_one_new _ _ _) (by simp [Value.oneCell']) (by decide) (by unfold maxLen; omega) (by omega) (Nat.zero_le _) _ rfl ?_; intro gg cap w4 hown hgrow hat hgl; have hb3 := HWI.out.alloc HWI.out.size (.cells #[.slice (some ⟨gr, 0, none⟩) L cr] 23); obtain ⟨_, fc, ff⟩ := HPG.out.far hb3 hgrow HPG.out.vN; have e0 := (fc 0).trans HPG.out.c1; have f0 := ff 0; clear fc ff)
          have hP5 := HPG.out.rowF hb3 (HROW.out.below ((Below.refl _ _).alloc (Nat.le_refl _) _)) (Nat.le_refl _) HGL.out hown hgrow hat
          have hlow := pgG_low (o := 0) (y := .slice (some ⟨gg, 0, none⟩) (a + 1) cap) HB.out HPG.out.BN HPG.out.lt hb3 hgrow (fun b hb => (HPG.out.rows.mb b hb).1)
          rw [← HGS.out] at hP5
          have HP5 := Lib.hid hP5
          have HLOW := Lib.hid hlow
          clear hP5 hlow hown hgrow hat hgl hb3
          go_wp2_with fail
          go_roundw
          case rel =>
            have h := HP5.out
            rw [HLL2.out] at h
            exact ⟨a + 1, _, _, _, by omega, by go_num, h, HLOW.out⟩
          case measure => simp [intOf]; omega
    · obtain rfl : a = n := by omega
      rw [← HQZ.out] at hP
      have HP0 := Lib.hid hP
      clear hP hB hg2 HPG
      go_wp2_with fail
      go_loopw [9] (fun c wi => ∃ (j : Nat) (v q : Value) (us : List Value), j ≤ m ∧ c = .int .i64 j ∧ PgG X wi N v q (grows g (a + m) (a + j)) (Qk j) us ∧ Below X W1 wi) (fun c _ => m - (intOf c).toNat)
      case atStart => exact ⟨0, _, _, us, Nat.zero_le _, rfl, HP0.out, HB.out⟩
      case round =>
        obtain ⟨j, v2, q2, us2, hjm, rfl, hP, hB⟩ := hrel
        have hB' := hB
        rw [HX.out] at hB'
        have hg2 := HGC.out.next hB'
        clear hB'
        by_cases hlt : j < m
        · obtain ⟨bA, oA, c2, e3, hb2', hTA2⟩ := HTA.out (by omega)
          simp only [Value.slice.injEq, true_and] at e3
          obtain ⟨rfl, rfl⟩ := e3
          obtain ⟨r, o, d, hr, s1, s2, _⟩ := hTA2 j hlt
          obtain ⟨bB, oB, c4, e4, hb4, hTB2⟩ := HTB.out (by omega)
          simp only [Value.slice.injEq, true_and] at e4
          obtain ⟨rfl, rfl⟩ := e4
          have hwi := hg2.b
          have kA := hg2.k2
          have kB := hg2.k3
          have s1 := (hwi.cell (p := ⟨bA, oA + j, none⟩) hb2').trans s1
          have t1 := (hwi.cell (p := ⟨bB, oB + j, none⟩) hb4).trans (hTB2 j (by have := HML.out; omega))
          have hAL := HAL.out j hlt
          have HOW := Lib.hid (fun (w' : World) (h : Below w.heap.size w w') => l01Own_any _ _ w' (s2.below h) (fun e => by rw [e] at hAL; simp at hAL; omega) (by omega))
          have HRA := Lib.hid (HAR.out j hlt)
          obtain ⟨As, hAs⟩ : ∃ As, As = A.getD j [] := ⟨_, rfl⟩
          rw [← hAs] at HOW HRA hAL
          have HASL := Lib.hid hAL
          have hbk := HBK.out j hlt
          have HQS2 := Lib.hid (HQS.out j hlt)
          have HQL2 := Lib.hid (HQL.out j hjm)
          have HPG := Lib.hid hP
          have HB := Lib.hid hB
          have HWI := Lib.hid hwi
          have hWsz : w.heap.size + 1 < wr.heap.size := hg2.z
          generalize B.getD j 0 = x at *
          have hjl : (j : Int) < m := by omega
          have hm1 : 1 ≤ m := by omega
          clear hP hB hg2 hwi hr s2 hTA2 hTB2 hAs hAL
          go_wp2_with fail
          obtain ⟨W, rfl⟩ : ∃ W, W = wr := ⟨_, rfl⟩
          have q2' := kA
          have hb2W : bA < W.heap.size := Nat.lt_of_lt_of_le hb2' (Nat.le_trans (by omega) HWI.out.size)
          rename_i K0 hK0
          refine (wpIn_wide (n := 8)).1 ?_
          refine PR.wpIn_region_inv hmx (by kernel_rfl) (fun listed ac w' =>
              ∃ (b0 b1 b2 b3 b4 b5 b6 b7 b8 b9 b10 b11 b12 b13 : Bool) (v' : Value) (gr : Nat) (cr : Nat) (gz : Nat) (cz : Nat) (hb : Nat), ((b1 = true → b0 = true) ∧ (b3 = true → b2 = true) ∧ (b5 = true → b3 = true ∧ b4 = true) ∧ (b6 = true → b5 = true) ∧ (b7 = true → b6 = true) ∧ (b9 = true → b7 = true ∧ b8 = true) ∧ (b10 = true → b9 = true) ∧ (b11 = true → b1 = true ∧ b10 = true) ∧ (b13 = true → b12 = true ∧ b11 = true)) ∧ listed = #[b0, b1, b2, b3, b4, b5, b6, b7, b8, b9, b10, b11, b12, b13] ∧
                ac = { tmps := #[.agg #[.slice (some ⟨BD, off, none⟩) a cd, .slice x2 a y2, .slice (some ⟨bA, oA, none⟩) m y3, .slice (some ⟨bB, oB, none⟩) m y4], .pointer (some ⟨w.heap.size, 0, none⟩), .pointer (some ⟨w.heap.size + 1, 0, none⟩), .int .i64 a, .int .i64 m, .pointer (some ⟨N, 0, none⟩), .int .i64 a, u7, u8, .int .i64 j, .pointer (some ⟨w.heap.size, 1, none⟩), .slice x2 a y2, .int .i64 a, .pointer (some ⟨w.heap.size, 3, none⟩), .slice (some ⟨bB, oB, none⟩) m y4, .int .i64 m, .slice (some ⟨X, 0, none⟩) 0 0, .pointer (some ⟨w.heap.size, 1, none⟩), .slice x2 a y2, .slice (some ⟨gu, 0, none⟩) a cu, .agg #[.slice (some ⟨X, 0, none⟩) 0 0, .slice (some ⟨gu, 0, none⟩) a cu], .int .i64 a, .int .i64 a, .bool false, u24, u25, u26, u27, u28, u29, u30, u31, u32, u33, u34, u35, u36, u37, u38, u39, u40, u41, u42, u43, u44, u45, u46, u47, u48, u49, u50, u51, u52, u53, u54, .int .i64 j, .int .i64 m, .bool true, u58, u59, cond b0 (.pointer (some ⟨N, 0, none⟩)) (u60), cond b1 (v2) (u61), cond b2 (.pointer (some ⟨w.heap.size, 2, none⟩)) (u62), cond b3 (.slice (some ⟨bA, oA, none⟩) m y3) (u63), cond b4 (.int .i64 j) (u64), cond b5 (.pointer (some ⟨bA, oA + j, none⟩)) (u65), cond b6 (.slice (some ⟨r, o, none⟩) a d) (u66), cond b7 (.slice (some ⟨gr, 0, none⟩) a cr) (u67), cond b8 (.int .i64 m) (u68), cond b9 (.slice (some ⟨gz, 0, none⟩) (a + m) cz) (u69), cond b10 (.slice (some ⟨hb, 0, none⟩) 1 1) (u70), cond b11 (v') (u71), cond b12 (.pointer (some ⟨N, 0, none⟩)) (u72), u73, u74, u75, u76, u77, u78, u79, u80, u81, u82, u83, undef], defers := [] } ∧ PzR W1 W w' X N a m (a + j) v2 q2 (grows g (a + m) (a + j)) (Qk j) As us2 v' gr cr gz cz hb b7 b9 b10 b11 b13) ?_ ?_ ?_ ?_
          · rintro listed ac w' ⟨b0, b1, b2, b3, b4, b5, b6, b7, b8, b9, b10, b11, b12, b13, v', gr, cr, gz, cz, hb, _, rfl, _⟩
            rfl
          · rintro listed ac w' ⟨b0, b1, b2, b3, b4, b5, b6, b7, b8, b9, b10, b11, b12, b13, v', gr, cr, gz, cz, hb, _, rfl, rfl, hR⟩ hall
            have h0 := hall 0 (by simp)
            have h1 := hall 1 (by simp)
            have h2 := hall 2 (by simp)
            have h3 := hall 3 (by simp)
            have h4 := hall 4 (by simp)
            have h5 := hall 5 (by simp)
            have h6 := hall 6 (by simp)
            have h7 := hall 7 (by simp)
            have h8 := hall 8 (by simp)
            have h9 := hall 9 (by simp)
            have h10 := hall 10 (by simp)
            have h11 := hall 11 (by simp)
            have h12 := hall 12 (by simp)
            have h13 := hall 13 (by simp)
            simp at h0 h1 h2 h3 h4 h5 h6 h7 h8 h9 h10 h11 h12 h13
            subst h0 h1 h2 h3 h4 h5 h6 h7 h8 h9 h10 h11 h12 h13
            clear hall
            refine hK0 _ _ ?_
            simp only [cond_true]
            obtain ⟨hfin, hlow⟩ := hR.fin rfl
            rw [← HRA.out, ← grows_snoc] at hfin
            have HF := Lib.hid hfin
            have HL := Lib.hid hlow
            have hB6 := hlow
            rw [HX.out] at hB6
            have hg6 := HGC.out.next hB6
            have kB6 := hg6.k3
            have t6 := (hg6.b.cell (p := ⟨bB, oB + j, none⟩) hb4).trans ((HWI.out.cell (p := ⟨bB, oB + j, none⟩) hb4).symm.trans t1)
            have hbB6 : bB < w'.heap.size := Nat.lt_of_lt_of_le hb4 hg6.b.size
            have hWsz6 : w.heap.size + 1 < w'.heap.size := hg6.z
            clear hR hfin hlow hB6 hg6 kA kB t1 s1 q2'
            go_wp2_with fail
            obtain ⟨W6, rfl⟩ : ∃ x, x = w' := ⟨_, rfl⟩
            rename_i K1 hK1 hq1
            have hwx : IntKind.i64.wrap (-x) = -x := IntWalk.i64_in _ (by omega)
            refine (wpIn_wide (n := 8)).1 ?_
            refine PR.wpIn_region_inv hmx (by kernel_rfl) (fun listed ac w' =>
                ∃ (b0 b1 b2 b3 b4 b5 b6 b7 b8 b9 b10 b11 : Bool) (q' : Value) (h2 : Nat), ((b1 = true → b0 = true) ∧ (b3 = true → b2 = true) ∧ (b5 = true → b3 = true ∧ b4 = true) ∧ (b6 = true → b5 = true) ∧ (b7 = true → b6 = true) ∧ (b8 = true → b7 = true) ∧ (b9 = true → b1 = true ∧ b8 = true) ∧ (b11 = true → b10 = true ∧ b9 = true)) ∧ listed = #[b0, b1, b2, b3, b4, b5, b6, b7, b8, b9, b10, b11] ∧
                  ac = { tmps := #[.agg #[.slice (some ⟨BD, off, none⟩) a cd, .slice x2 a y2, .slice (some ⟨bA, oA, none⟩) m y3, .slice (some ⟨bB, oB, none⟩) m y4], .pointer (some ⟨w.heap.size, 0, none⟩), .pointer (some ⟨w.heap.size + 1, 0, none⟩), .int .i64 a, .int .i64 m, .pointer (some ⟨N, 0, none⟩), .int .i64 a, u7, u8, .int .i64 j, .pointer (some ⟨w.heap.size, 1, none⟩), .slice x2 a y2, .int .i64 a, .pointer (some ⟨w.heap.size, 3, none⟩), .slice (some ⟨bB, oB, none⟩) m y4, .int .i64 m, .slice (some ⟨X, 0, none⟩) 0 0, .pointer (some ⟨w.heap.size, 1, none⟩), .slice x2 a y2, .slice (some ⟨gu, 0, none⟩) a cu, .agg #[.slice (some ⟨X, 0, none⟩) 0 0, .slice (some ⟨gu, 0, none⟩) a cu], .int .i64 a, .int .i64 a, .bool false, u24, u25, u26, u27, u28, u29, u30, u31, u32, u33, u34, u35, u36, u37, u38, u39, u40, u41, u42, u43, u44, u45, u46, u47, u48, u49, u50, u51, u52, u53, u54, .int .i64 j, .int .i64 m, .bool true, u58, u59, .pointer (some ⟨N, 0, none⟩), v2, .pointer (some ⟨w.heap.size, 2, none⟩), .slice (some ⟨bA, oA, none⟩) m y3, .int .i64 j, .pointer (some ⟨bA, oA + j, none⟩), .slice (some ⟨r, o, none⟩) a d, .slice (some ⟨gr, 0, none⟩) a cr, .int .i64 m, .slice (some ⟨gz, 0, none⟩) (a + m) cz, .slice (some ⟨hb, 0, none⟩) 1 1, v', .pointer (some ⟨N, 0, none⟩), cond b0 (.pointer (some ⟨N, 1, none⟩)) (u73), cond b1 (q2) (u74), cond b2 (.pointer (some ⟨w.heap.size, 3, none⟩)) (u75), cond b3 (.slice (some ⟨bB, oB, none⟩) m y4) (u76), cond b4 (.int .i64 j) (u77), cond b5 (.pointer (some ⟨bB, oB + j, none⟩)) (u78), cond b6 (.int .i64 x) (u79), cond b7 (.int .i64 (-x)) (u80), cond b8 (.slice (some ⟨h2, 0, none⟩) 1 1) (u81), cond b9 (q') (u82), cond b10 (.pointer (some ⟨N, 1, none⟩)) (u83), undef], defers := [] } ∧ PwR W1 W6 w' X N (a + j) v' q2 (grows g (a + m) (a + j + 1)) (Qk j) (-x) (us2 ++ [.slice (some ⟨gz, 0, none⟩) (a + m) cz]) q' h2 b8 b9 b11) ?_ ?_ ?_ ?_
            · rintro listed ac w' ⟨b0, b1, b2, b3, b4, b5, b6, b7, b8, b9, b10, b11, q', h2, _, rfl, _⟩
              rfl
            · rintro listed ac w' ⟨b0, b1, b2, b3, b4, b5, b6, b7, b8, b9, b10, b11, q', h2, _, rfl, rfl, hR⟩ hall
              have h0 := hall 0 (by simp)
              have h1 := hall 1 (by simp)
              have h2 := hall 2 (by simp)
              have h3 := hall 3 (by simp)
              have h4 := hall 4 (by simp)
              have h5 := hall 5 (by simp)
              have h6 := hall 6 (by simp)
              have h7 := hall 7 (by simp)
              have h8 := hall 8 (by simp)
              have h9 := hall 9 (by simp)
              have h10 := hall 10 (by simp)
              have h11 := hall 11 (by simp)
              simp at h0 h1 h2 h3 h4 h5 h6 h7 h8 h9 h10 h11
              subst h0 h1 h2 h3 h4 h5 h6 h7 h8 h9 h10 h11
              clear hall
              refine hK1 _ _ ?_
              simp only [cond_true]
              obtain ⟨hfin, hlow⟩ := hR.fin rfl
              rw [← HQS2.out] at hfin
              have HF9 := Lib.hid hfin
              have HL9 := Lib.hid hlow
              clear hR hfin hlow
              go_wp2_with fail
              go_roundw
              case rel => exact ⟨j + 1, _, _, _, by omega, by go_num, HF9.out, HL9.out⟩
              case measure => simp [intOf]; omega
            · exact ⟨false, false, false, false, false, false, false, false, false, false, false, false, undef, 0, by simp, rfl, rfl, ⟨fun _ => (Below.refl _ _).drew, fun e => (by cases e), fun e => (by cases e), fun e => (by cases e)⟩⟩
            · rintro listed ac w' i oi ⟨b0, b1, b2, b3, b4, b5, b6, b7, b8, b9, b10, b11, q', h2, ⟨e1, e3, e5, e6, e7, e8, e9, e11⟩, rfl, rfl, hR⟩ ho hun hdep
              have hi : i < 12 := by simpa using (Array.getElem?_eq_some_iff.1 ho).1
              obtain rfl | rfl | rfl | rfl | rfl | rfl | rfl | rfl | rfl | rfl | rfl | rfl : i = 0 ∨ i = 1 ∨ i = 2 ∨ i = 3 ∨ i = 4 ∨ i = 5 ∨ i = 6 ∨ i = 7 ∨ i = 8 ∨ i = 9 ∨ i = 10 ∨ i = 11 := by omega
              · -- 0
                simp only [List.getElem?_toArray, List.getElem?_cons_zero, Option.some.injEq] at ho
                subst ho
                have hbi : b0 = false := by simpa using hun
                subst hbi
                obtain rfl : b1 = false := Bool.eq_false_iff.2 (fun h => Bool.noConfusion (e1 h))
                obtain rfl : b9 = false := Bool.eq_false_iff.2 (fun h => Bool.noConfusion (e9 h).1)
                obtain rfl : b11 = false := Bool.eq_false_iff.2 (fun h => Bool.noConfusion (e11 h).2)
                refine wpOpIn_step rfl (fun K hK => ?_)
                clear hun hdep hi
                go_simp
                refine hK _ _ ⟨true, false, b2, b3, b4, b5, b6, b7, b8, false, b10, false, q', h2, ⟨fun h => Bool.noConfusion h, e3, e5, e6, e7, e8, fun h => Bool.noConfusion h, fun h => Bool.noConfusion h⟩, rfl, rfl, hR⟩
              · -- 1
                simp only [List.getElem?_toArray, List.getElem?_cons_succ, List.getElem?_cons_zero, Option.some.injEq] at ho
                subst ho
                have hbi : b1 = false := by simpa using hun
                subst hbi
                have hd0 : b0 = true := by have := hdep ⟨0, .data⟩ (by simp) rfl; simpa using this
                subst hd0
                obtain rfl : b9 = false := Bool.eq_false_iff.2 (fun h => Bool.noConfusion (e9 h).1)
                obtain rfl : b11 = false := Bool.eq_false_iff.2 (fun h => Bool.noConfusion (e11 h).2)
                refine wpOpIn_step rfl (fun K hK => ?_)
                clear hun hdep hi
                have t0 := ((hR.low rfl).cell (p := ⟨N, 1, none⟩) HF.out.lt).trans HF.out.c2
                go_simp
                refine hK _ _ ⟨true, true, b2, b3, b4, b5, b6, b7, b8, false, b10, false, q', h2, ⟨fun _ => rfl, e3, e5, e6, e7, e8, fun h => Bool.noConfusion h, fun h => Bool.noConfusion h⟩, rfl, rfl, hR⟩
              · -- 2
                simp only [List.getElem?_toArray, List.getElem?_cons_succ, List.getElem?_cons_zero, Option.some.injEq] at ho
                subst ho
                have hbi : b2 = false := by simpa using hun
                subst hbi
                obtain rfl : b3 = false := Bool.eq_false_iff.2 (fun h => Bool.noConfusion (e3 h))
                obtain rfl : b5 = false := Bool.eq_false_iff.2 (fun h => Bool.noConfusion (e5 h).1)
                obtain rfl : b6 = false := Bool.eq_false_iff.2 (fun h => Bool.noConfusion (e6 h))
                obtain rfl : b7 = false := Bool.eq_false_iff.2 (fun h => Bool.noConfusion (e7 h))
                obtain rfl : b8 = false := Bool.eq_false_iff.2 (fun h => Bool.noConfusion (e8 h))
                obtain rfl : b9 = false := Bool.eq_false_iff.2 (fun h => Bool.noConfusion (e9 h).2)
                obtain rfl : b11 = false := Bool.eq_false_iff.2 (fun h => Bool.noConfusion (e11 h).2)
                refine wpOpIn_step rfl (fun K hK => ?_)
                clear hun hdep hi
                go_simp
                refine hK _ _ ⟨b0, b1, true, false, b4, false, false, false, false, false, b10, false, q', h2, ⟨e1, fun h => Bool.noConfusion h, fun h => Bool.noConfusion h, fun h => Bool.noConfusion h, fun h => Bool.noConfusion h, fun h => Bool.noConfusion h, fun h => Bool.noConfusion h, fun h => Bool.noConfusion h⟩, rfl, rfl, hR⟩
              · -- 3
                simp only [List.getElem?_toArray, List.getElem?_cons_succ, List.getElem?_cons_zero, Option.some.injEq] at ho
                subst ho
                have hbi : b3 = false := by simpa using hun
                subst hbi
                have hd2 : b2 = true := by have := hdep ⟨2, .data⟩ (by simp) rfl; simpa using this
                subst hd2
                obtain rfl : b5 = false := Bool.eq_false_iff.2 (fun h => Bool.noConfusion (e5 h).1)
                obtain rfl : b6 = false := Bool.eq_false_iff.2 (fun h => Bool.noConfusion (e6 h))
                obtain rfl : b7 = false := Bool.eq_false_iff.2 (fun h => Bool.noConfusion (e7 h))
                obtain rfl : b8 = false := Bool.eq_false_iff.2 (fun h => Bool.noConfusion (e8 h))
                obtain rfl : b9 = false := Bool.eq_false_iff.2 (fun h => Bool.noConfusion (e9 h).2)
                obtain rfl : b11 = false := Bool.eq_false_iff.2 (fun h => Bool.noConfusion (e11 h).2)
                refine wpOpIn_step rfl (fun K hK => ?_)
                clear hun hdep hi
                have t0 := ((hR.low rfl).cell (p := ⟨w.heap.size, 3, none⟩) (by show w.heap.size < _; omega)).trans kB6
                go_simp
                refine hK _ _ ⟨b0, b1, true, true, b4, false, false, false, false, false, b10, false, q', h2, ⟨e1, fun _ => rfl, fun h => Bool.noConfusion h, fun h => Bool.noConfusion h, fun h => Bool.noConfusion h, fun h => Bool.noConfusion h, fun h => Bool.noConfusion h, fun h => Bool.noConfusion h⟩, rfl, rfl, hR⟩
              · -- 4
                simp only [List.getElem?_toArray, List.getElem?_cons_succ, List.getElem?_cons_zero, Option.some.injEq] at ho
                subst ho
                have hbi : b4 = false := by simpa using hun
                subst hbi
                obtain rfl : b5 = false := Bool.eq_false_iff.2 (fun h => Bool.noConfusion (e5 h).2)
                obtain rfl : b6 = false := Bool.eq_false_iff.2 (fun h => Bool.noConfusion (e6 h))
                obtain rfl : b7 = false := Bool.eq_false_iff.2 (fun h => Bool.noConfusion (e7 h))
                obtain rfl : b8 = false := Bool.eq_false_iff.2 (fun h => Bool.noConfusion (e8 h))
                obtain rfl : b9 = false := Bool.eq_false_iff.2 (fun h => Bool.noConfusion (e9 h).2)
                obtain rfl : b11 = false := Bool.eq_false_iff.2 (fun h => Bool.noConfusion (e11 h).2)
                refine wpOpIn_step rfl (fun K hK => ?_)
                clear hun hdep hi
                go_simp
                refine hK _ _ ⟨b0, b1, b2, b3, true, false, false, false, false, false, b10, false, q', h2, ⟨e1, e3, fun h => Bool.noConfusion h, fun h => Bool.noConfusion h, fun h => Bool.noConfusion h, fun h => Bool.noConfusion h, fun h => Bool.noConfusion h, fun h => Bool.noConfusion h⟩, rfl, rfl, hR⟩
              · -- 5
                simp only [List.getElem?_toArray, List.getElem?_cons_succ, List.getElem?_cons_zero, Option.some.injEq] at ho
                subst ho
                have hbi : b5 = false := by simpa using hun
                subst hbi
                have hd3 : b3 = true := by have := hdep ⟨3, .data⟩ (by simp) rfl; simpa using this
                have hd4 : b4 = true := by have := hdep ⟨4, .data⟩ (by simp) rfl; simpa using this
                have hd2 : b2 = true := (e3 hd3)
                subst hd2 hd3 hd4
                obtain rfl : b6 = false := Bool.eq_false_iff.2 (fun h => Bool.noConfusion (e6 h))
                obtain rfl : b7 = false := Bool.eq_false_iff.2 (fun h => Bool.noConfusion (e7 h))
                obtain rfl : b8 = false := Bool.eq_false_iff.2 (fun h => Bool.noConfusion (e8 h))
                obtain rfl : b9 = false := Bool.eq_false_iff.2 (fun h => Bool.noConfusion (e9 h).2)
                obtain rfl : b11 = false := Bool.eq_false_iff.2 (fun h => Bool.noConfusion (e11 h).2)
                refine wpOpIn_step rfl (fun K hK => ?_)
                clear hun hdep hi
                go_simp
                refine hK _ _ ⟨b0, b1, true, true, true, true, false, false, false, false, b10, false, q', h2, ⟨e1, fun _ => rfl, fun _ => ⟨rfl, rfl⟩, fun h => Bool.noConfusion h, fun h => Bool.noConfusion h, fun h => Bool.noConfusion h, fun h => Bool.noConfusion h, fun h => Bool.noConfusion h⟩, rfl, rfl, hR⟩
              · -- 6
                simp only [List.getElem?_toArray, List.getElem?_cons_succ, List.getElem?_cons_zero, Option.some.injEq] at ho
                subst ho
                have hbi : b6 = false := by simpa using hun
                subst hbi
                have hd5 : b5 = true := by have := hdep ⟨5, .data⟩ (by simp) rfl; simpa using this
                have hd4 : b4 = true := (e5 hd5).2
                have hd3 : b3 = true := (e5 hd5).1
                have hd2 : b2 = true := (e3 hd3)
                subst hd2 hd3 hd4 hd5
                obtain rfl : b7 = false := Bool.eq_false_iff.2 (fun h => Bool.noConfusion (e7 h))
                obtain rfl : b8 = false := Bool.eq_false_iff.2 (fun h => Bool.noConfusion (e8 h))
                obtain rfl : b9 = false := Bool.eq_false_iff.2 (fun h => Bool.noConfusion (e9 h).2)
                obtain rfl : b11 = false := Bool.eq_false_iff.2 (fun h => Bool.noConfusion (e11 h).2)
                refine wpOpIn_step rfl (fun K hK => ?_)
                clear hun hdep hi
                have t0 := ((hR.low rfl).cell (p := ⟨bB, oB + j, none⟩) hbB6).trans t6
                go_simp
                refine hK _ _ ⟨b0, b1, true, true, true, true, true, false, false, false, b10, false, q', h2, ⟨e1, fun _ => rfl, fun _ => ⟨rfl, rfl⟩, fun _ => rfl, fun h => Bool.noConfusion h, fun h => Bool.noConfusion h, fun h => Bool.noConfusion h, fun h => Bool.noConfusion h⟩, rfl, rfl, hR⟩
              · -- 7
                simp only [List.getElem?_toArray, List.getElem?_cons_succ, List.getElem?_cons_zero, Option.some.injEq] at ho
                subst ho
                have hbi : b7 = false := by simpa using hun
                subst hbi
                have hd6 : b6 = true := by have := hdep ⟨6, .data⟩ (by simp) rfl; simpa using this
                have hd5 : b5 = true := (e6 hd6)
                have hd4 : b4 = true := (e5 hd5).2
                have hd3 : b3 = true := (e5 hd5).1
                have hd2 : b2 = true := (e3 hd3)
                subst hd2 hd3 hd4 hd5 hd6
                obtain rfl : b8 = false := Bool.eq_false_iff.2 (fun h => Bool.noConfusion (e8 h))
                obtain rfl : b9 = false := Bool.eq_false_iff.2 (fun h => Bool.noConfusion (e9 h).2)
                obtain rfl : b11 = false := Bool.eq_false_iff.2 (fun h => Bool.noConfusion (e11 h).2)
                refine wpOpIn_step rfl (fun K hK => ?_)
                clear hun hdep hi
                go_simp
                refine hK _ _ ⟨b0, b1, true, true, true, true, true, true, false, false, b10, false, q', h2, ⟨e1, fun _ => rfl, fun _ => ⟨rfl, rfl⟩, fun _ => rfl, fun _ => rfl, fun h => Bool.noConfusion h, fun h => Bool.noConfusion h, fun h => Bool.noConfusion h⟩, rfl, rfl, hR⟩
              · -- 8
                simp only [List.getElem?_toArray, List.getElem?_cons_succ, List.getElem?_cons_zero, Option.some.injEq] at ho
                subst ho
                have hbi : b8 = false := by simpa using hun
                subst hbi
                have hd7 : b7 = true := by have := hdep ⟨7, .data⟩ (by simp) rfl; simpa using this
                have hd6 : b6 = true := (e7 hd7)
                have hd5 : b5 = true := (e6 hd6)
                have hd4 : b4 = true := (e5 hd5).2
                have hd3 : b3 = true := (e5 hd5).1
                have hd2 : b2 = true := (e3 hd3)
                subst hd2 hd3 hd4 hd5 hd6 hd7
                obtain rfl : b9 = false := Bool.eq_false_iff.2 (fun h => Bool.noConfusion (e9 h).2)
                obtain rfl : b11 = false := Bool.eq_false_iff.2 (fun h => Bool.noConfusion (e11 h).2)
                refine wpOpIn_step rfl (fun K hK => ?_)
                clear hun hdep hi
                go_simp
                refine hK _ _ ⟨b0, b1, true, true, true, true, true, true, true, false, b10, false, q', w'.heap.size, ⟨e1, fun _ => rfl, fun _ => ⟨rfl, rfl⟩, fun _ => rfl, fun _ => rfl, fun _ => rfl, fun h => Bool.noConfusion h, fun h => Bool.noConfusion h⟩, rfl, rfl, hR.box_⟩
              · -- 9
                simp only [List.getElem?_toArray, List.getElem?_cons_succ, List.getElem?_cons_zero, Option.some.injEq] at ho
                subst ho
                have hbi : b9 = false := by simpa using hun
                subst hbi
                have hd1 : b1 = true := by have := hdep ⟨1, .data⟩ (by simp) rfl; simpa using this
                have hd8 : b8 = true := by have := hdep ⟨8, .data⟩ (by simp) rfl; simpa using this
                have hd7 : b7 = true := (e8 hd8)
                have hd6 : b6 = true := (e7 hd7)
                have hd5 : b5 = true := (e6 hd6)
                have hd4 : b4 = true := (e5 hd5).2
                have hd3 : b3 = true := (e5 hd5).1
                have hd2 : b2 = true := (e3 hd3)
                have hd0 : b0 = true := (e1 hd1)
                subst hd0 hd1 hd2 hd3 hd4 hd5 hd6 hd7 hd8
                obtain rfl : b11 = false := Bool.eq_false_iff.2 (fun h => Bool.noConfusion (e11 h).2)
                refine wpOpIn_step rfl (fun K hK => ?_)
                clear hun hdep hi
                refine PR.stepIn_append_liesP _ rfl _ _ 23 rfl 0 2 j0 (.int .i64 0) 1 8 Try.underlying23 hj' hyy0 hyy1 hyy2 rfl (by decide) q2 (a + j) _ rfl (HF.out.ownQ (hR.low rfl) HQL2.out) ⟨h2, 0, none⟩ 1 1 [.int .i64 (-x)] rfl rfl (news_one (hR.box rfl rfl)) (by simp [Value.oneCell']) (by decide) (by unfold maxLen; omega) (by omega) (Nat.zero_le _) ?_
                intro g2 cap w'' hown hgrow hat hgl
                refine hK _ _ ⟨true, true, true, true, true, true, true, true, true, true, b10, false, (.slice (some ⟨g2, 0, none⟩) (a + j + 1) cap), h2, ⟨fun _ => rfl, fun _ => rfl, fun _ => ⟨rfl, rfl⟩, fun _ => rfl, fun _ => rfl, fun _ => rfl, fun _ => ⟨rfl, rfl⟩, fun h => Bool.noConfusion h⟩, rfl, rfl, hR.app_ hown hgrow hat hgl⟩
              · -- 10
                simp only [List.getElem?_toArray, List.getElem?_cons_succ, List.getElem?_cons_zero, Option.some.injEq] at ho
                subst ho
                have hbi : b10 = false := by simpa using hun
                subst hbi
                obtain rfl : b11 = false := Bool.eq_false_iff.2 (fun h => Bool.noConfusion (e11 h).1)
                refine wpOpIn_step rfl (fun K hK => ?_)
                clear hun hdep hi
                go_simp
                refine hK _ _ ⟨b0, b1, b2, b3, b4, b5, b6, b7, b8, b9, true, false, q', h2, ⟨e1, e3, e5, e6, e7, e8, e9, fun h => Bool.noConfusion h⟩, rfl, rfl, hR⟩
              · -- 11
                simp only [List.getElem?_toArray, List.getElem?_cons_succ, List.getElem?_cons_zero, Option.some.injEq] at ho
                subst ho
                have hbi : b11 = false := by simpa using hun
                subst hbi
                have hd9 : b9 = true := by have := hdep ⟨9, .data⟩ (by simp) rfl; simpa using this
                have hd10 : b10 = true := by have := hdep ⟨10, .data⟩ (by simp) rfl; simpa using this
                have hd8 : b8 = true := (e9 hd9).2
                have hd7 : b7 = true := (e8 hd8)
                have hd6 : b6 = true := (e7 hd7)
                have hd5 : b5 = true := (e6 hd6)
                have hd4 : b4 = true := (e5 hd5).2
                have hd3 : b3 = true := (e5 hd5).1
                have hd2 : b2 = true := (e3 hd3)
                have hd1 : b1 = true := (e9 hd9).1
                have hd0 : b0 = true := (e1 hd1)
                subst hd0 hd1 hd2 hd3 hd4 hd5 hd6 hd7 hd8 hd9 hd10
                refine wpOpIn_step rfl (fun K hK => ?_)
                clear hun hdep hi
                obtain ⟨w3', g2, cap, rfl, hl3', _, hgr, _, _⟩ := hR.app rfl rfl
                obtain ⟨f1', f2', f3'⟩ := HF.out.far hl3' hgr HF.out.qN
                have t0 := (f2' 1).trans HF.out.c2
                have t1 := f3' 1
                clear f1' f2' f3' hl3' hgr
                go_simp
                refine hK _ _ ⟨true, true, true, true, true, true, true, true, true, true, true, true, (.slice (some ⟨g2, 0, none⟩) (a + j + 1) cap), h2, ⟨fun _ => rfl, fun _ => rfl, fun _ => ⟨rfl, rfl⟩, fun _ => rfl, fun _ => rfl, fun _ => rfl, fun _ => ⟨rfl, rfl⟩, fun _ => ⟨rfl, rfl⟩⟩, rfl, rfl, hR.store_ HF.out HQL2.out HL.out⟩
          · exact ⟨false, false, false, false, false, false, false, false, false, false, false, false, false, false, undef, 0, 0, 0, 0, 0, by simp, rfl, rfl, ⟨fun _ => (Below.refl _ _).drew, fun e => (by cases e), fun e => (by cases e), fun e => (by cases e), fun e => (by cases e), fun e => (by cases e)⟩⟩
          · rintro listed ac w' i oi ⟨b0, b1, b2, b3, b4, b5, b6, b7, b8, b9, b10, b11, b12, b13, v', gr, cr, gz, cz, hb, ⟨e1, e3, e5, e6, e7, e9, e10, e11, e13⟩, rfl, rfl, hR⟩ ho hun hdep
            have hi : i < 14 := by simpa using (Array.getElem?_eq_some_iff.1 ho).1
            obtain rfl | rfl | rfl | rfl | rfl | rfl | rfl | rfl | rfl | rfl | rfl | rfl | rfl | rfl : i = 0 ∨ i = 1 ∨ i = 2 ∨ i = 3 ∨ i = 4 ∨ i = 5 ∨ i = 6 ∨ i = 7 ∨ i = 8 ∨ i = 9 ∨ i = 10 ∨ i = 11 ∨ i = 12 ∨ i = 13 := by omega
            · -- 0
              simp only [List.getElem?_toArray, List.getElem?_cons_zero, Option.some.injEq] at ho
              subst ho
              have hbi : b0 = false := by simpa using hun
              subst hbi
              obtain rfl : b1 = false := Bool.eq_false_iff.2 (fun h => Bool.noConfusion (e1 h))
              obtain rfl : b11 = false := Bool.eq_false_iff.2 (fun h => Bool.noConfusion (e11 h).1)
              obtain rfl : b13 = false := Bool.eq_false_iff.2 (fun h => Bool.noConfusion (e13 h).2)
              refine wpOpIn_step rfl (fun K hK => ?_)
              clear hun hdep hi
              go_simp
              refine hK _ _ ⟨true, false, b2, b3, b4, b5, b6, b7, b8, b9, b10, false, b12, false, v', gr, cr, gz, cz, hb, ⟨fun h => Bool.noConfusion h, e3, e5, e6, e7, e9, e10, fun h => Bool.noConfusion h, fun h => Bool.noConfusion h⟩, rfl, rfl, hR⟩
            · -- 1
              simp only [List.getElem?_toArray, List.getElem?_cons_succ, List.getElem?_cons_zero, Option.some.injEq] at ho
              subst ho
              have hbi : b1 = false := by simpa using hun
              subst hbi
              have hd0 : b0 = true := by have := hdep ⟨0, .data⟩ (by simp) rfl; simpa using this
              subst hd0
              obtain rfl : b11 = false := Bool.eq_false_iff.2 (fun h => Bool.noConfusion (e11 h).1)
              obtain rfl : b13 = false := Bool.eq_false_iff.2 (fun h => Bool.noConfusion (e13 h).2)
              refine wpOpIn_step rfl (fun K hK => ?_)
              clear hun hdep hi
              have t0 := ((hR.low rfl).cell (p := ⟨N, 0, none⟩) HPG.out.lt).trans HPG.out.c1
              go_simp
              refine hK _ _ ⟨true, true, b2, b3, b4, b5, b6, b7, b8, b9, b10, false, b12, false, v', gr, cr, gz, cz, hb, ⟨fun _ => rfl, e3, e5, e6, e7, e9, e10, fun h => Bool.noConfusion h, fun h => Bool.noConfusion h⟩, rfl, rfl, hR⟩
            · -- 2
              simp only [List.getElem?_toArray, List.getElem?_cons_succ, List.getElem?_cons_zero, Option.some.injEq] at ho
              subst ho
              have hbi : b2 = false := by simpa using hun
              subst hbi
              obtain rfl : b3 = false := Bool.eq_false_iff.2 (fun h => Bool.noConfusion (e3 h))
              obtain rfl : b5 = false := Bool.eq_false_iff.2 (fun h => Bool.noConfusion (e5 h).1)
              obtain rfl : b6 = false := Bool.eq_false_iff.2 (fun h => Bool.noConfusion (e6 h))
              obtain rfl : b7 = false := Bool.eq_false_iff.2 (fun h => Bool.noConfusion (e7 h))
              obtain rfl : b9 = false := Bool.eq_false_iff.2 (fun h => Bool.noConfusion (e9 h).1)
              obtain rfl : b10 = false := Bool.eq_false_iff.2 (fun h => Bool.noConfusion (e10 h))
              obtain rfl : b11 = false := Bool.eq_false_iff.2 (fun h => Bool.noConfusion (e11 h).2)
              obtain rfl : b13 = false := Bool.eq_false_iff.2 (fun h => Bool.noConfusion (e13 h).2)
              refine wpOpIn_step rfl (fun K hK => ?_)
              clear hun hdep hi
              go_simp
              refine hK _ _ ⟨b0, b1, true, false, b4, false, false, false, b8, false, false, false, b12, false, v', gr, cr, gz, cz, hb, ⟨e1, fun h => Bool.noConfusion h, fun h => Bool.noConfusion h, fun h => Bool.noConfusion h, fun h => Bool.noConfusion h, fun h => Bool.noConfusion h, fun h => Bool.noConfusion h, fun h => Bool.noConfusion h, fun h => Bool.noConfusion h⟩, rfl, rfl, hR⟩
            · -- 3
              simp only [List.getElem?_toArray, List.getElem?_cons_succ, List.getElem?_cons_zero, Option.some.injEq] at ho
              subst ho
              have hbi : b3 = false := by simpa using hun
              subst hbi
              have hd2 : b2 = true := by have := hdep ⟨2, .data⟩ (by simp) rfl; simpa using this
              subst hd2
              obtain rfl : b5 = false := Bool.eq_false_iff.2 (fun h => Bool.noConfusion (e5 h).1)
              obtain rfl : b6 = false := Bool.eq_false_iff.2 (fun h => Bool.noConfusion (e6 h))
              obtain rfl : b7 = false := Bool.eq_false_iff.2 (fun h => Bool.noConfusion (e7 h))
              obtain rfl : b9 = false := Bool.eq_false_iff.2 (fun h => Bool.noConfusion (e9 h).1)
              obtain rfl : b10 = false := Bool.eq_false_iff.2 (fun h => Bool.noConfusion (e10 h))
              obtain rfl : b11 = false := Bool.eq_false_iff.2 (fun h => Bool.noConfusion (e11 h).2)
              obtain rfl : b13 = false := Bool.eq_false_iff.2 (fun h => Bool.noConfusion (e13 h).2)
              refine wpOpIn_step rfl (fun K hK => ?_)
              clear hun hdep hi
              have t0 := ((hR.low rfl).cell (p := ⟨w.heap.size, 2, none⟩) (by show w.heap.size < _; omega)).trans q2'
              go_simp
              refine hK _ _ ⟨b0, b1, true, true, b4, false, false, false, b8, false, false, false, b12, false, v', gr, cr, gz, cz, hb, ⟨e1, fun _ => rfl, fun h => Bool.noConfusion h, fun h => Bool.noConfusion h, fun h => Bool.noConfusion h, fun h => Bool.noConfusion h, fun h => Bool.noConfusion h, fun h => Bool.noConfusion h, fun h => Bool.noConfusion h⟩, rfl, rfl, hR⟩
            · -- 4
              simp only [List.getElem?_toArray, List.getElem?_cons_succ, List.getElem?_cons_zero, Option.some.injEq] at ho
              subst ho
              have hbi : b4 = false := by simpa using hun
              subst hbi
              obtain rfl : b5 = false := Bool.eq_false_iff.2 (fun h => Bool.noConfusion (e5 h).2)
              obtain rfl : b6 = false := Bool.eq_false_iff.2 (fun h => Bool.noConfusion (e6 h))
              obtain rfl : b7 = false := Bool.eq_false_iff.2 (fun h => Bool.noConfusion (e7 h))
              obtain rfl : b9 = false := Bool.eq_false_iff.2 (fun h => Bool.noConfusion (e9 h).1)
              obtain rfl : b10 = false := Bool.eq_false_iff.2 (fun h => Bool.noConfusion (e10 h))
              obtain rfl : b11 = false := Bool.eq_false_iff.2 (fun h => Bool.noConfusion (e11 h).2)
              obtain rfl : b13 = false := Bool.eq_false_iff.2 (fun h => Bool.noConfusion (e13 h).2)
              refine wpOpIn_step rfl (fun K hK => ?_)
              clear hun hdep hi
              go_simp
              refine hK _ _ ⟨b0, b1, b2, b3, true, false, false, false, b8, false, false, false, b12, false, v', gr, cr, gz, cz, hb, ⟨e1, e3, fun h => Bool.noConfusion h, fun h => Bool.noConfusion h, fun h => Bool.noConfusion h, fun h => Bool.noConfusion h, fun h => Bool.noConfusion h, fun h => Bool.noConfusion h, fun h => Bool.noConfusion h⟩, rfl, rfl, hR⟩
            · -- 5
              simp only [List.getElem?_toArray, List.getElem?_cons_succ, List.getElem?_cons_zero, Option.some.injEq] at ho
              subst ho
              have hbi : b5 = false := by simpa using hun
              subst hbi
              have hd3 : b3 = true := by have := hdep ⟨3, .data⟩ (by simp) rfl; simpa using this
              have hd4 : b4 = true := by have := hdep ⟨4, .data⟩ (by simp) rfl; simpa using this
              have hd2 : b2 = true := (e3 hd3)
              subst hd2 hd3 hd4
              obtain rfl : b6 = false := Bool.eq_false_iff.2 (fun h => Bool.noConfusion (e6 h))
              obtain rfl : b7 = false := Bool.eq_false_iff.2 (fun h => Bool.noConfusion (e7 h))
              obtain rfl : b9 = false := Bool.eq_false_iff.2 (fun h => Bool.noConfusion (e9 h).1)
              obtain rfl : b10 = false := Bool.eq_false_iff.2 (fun h => Bool.noConfusion (e10 h))
              obtain rfl : b11 = false := Bool.eq_false_iff.2 (fun h => Bool.noConfusion (e11 h).2)
              obtain rfl : b13 = false := Bool.eq_false_iff.2 (fun h => Bool.noConfusion (e13 h).2)
              refine wpOpIn_step rfl (fun K hK => ?_)
              clear hun hdep hi
              go_simp
              refine hK _ _ ⟨b0, b1, true, true, true, true, false, false, b8, false, false, false, b12, false, v', gr, cr, gz, cz, hb, ⟨e1, fun _ => rfl, fun _ => ⟨rfl, rfl⟩, fun h => Bool.noConfusion h, fun h => Bool.noConfusion h, fun h => Bool.noConfusion h, fun h => Bool.noConfusion h, fun h => Bool.noConfusion h, fun h => Bool.noConfusion h⟩, rfl, rfl, hR⟩
            · -- 6
              simp only [List.getElem?_toArray, List.getElem?_cons_succ, List.getElem?_cons_zero, Option.some.injEq] at ho
              subst ho
              have hbi : b6 = false := by simpa using hun
              subst hbi
              have hd5 : b5 = true := by have := hdep ⟨5, .data⟩ (by simp) rfl; simpa using this
              have hd4 : b4 = true := (e5 hd5).2
              have hd3 : b3 = true := (e5 hd5).1
              have hd2 : b2 = true := (e3 hd3)
              subst hd2 hd3 hd4 hd5
              obtain rfl : b7 = false := Bool.eq_false_iff.2 (fun h => Bool.noConfusion (e7 h))
              obtain rfl : b9 = false := Bool.eq_false_iff.2 (fun h => Bool.noConfusion (e9 h).1)
              obtain rfl : b10 = false := Bool.eq_false_iff.2 (fun h => Bool.noConfusion (e10 h))
              obtain rfl : b11 = false := Bool.eq_false_iff.2 (fun h => Bool.noConfusion (e11 h).2)
              obtain rfl : b13 = false := Bool.eq_false_iff.2 (fun h => Bool.noConfusion (e13 h).2)
              refine wpOpIn_step rfl (fun K hK => ?_)
              clear hun hdep hi
              have t0 := ((hR.low rfl).cell (p := ⟨bA, oA + j, none⟩) hb2W).trans s1
              go_simp
              refine hK _ _ ⟨b0, b1, true, true, true, true, true, false, b8, false, false, false, b12, false, v', gr, cr, gz, cz, hb, ⟨e1, fun _ => rfl, fun _ => ⟨rfl, rfl⟩, fun _ => rfl, fun h => Bool.noConfusion h, fun h => Bool.noConfusion h, fun h => Bool.noConfusion h, fun h => Bool.noConfusion h, fun h => Bool.noConfusion h⟩, rfl, rfl, hR⟩
            · -- 7
              simp only [List.getElem?_toArray, List.getElem?_cons_succ, List.getElem?_cons_zero, Option.some.injEq] at ho
              subst ho
              have hbi : b7 = false := by simpa using hun
              subst hbi
              have hd6 : b6 = true := by have := hdep ⟨6, .data⟩ (by simp) rfl; simpa using this
              have hd5 : b5 = true := (e6 hd6)
              have hd4 : b4 = true := (e5 hd5).2
              have hd3 : b3 = true := (e5 hd5).1
              have hd2 : b2 = true := (e3 hd3)
              subst hd2 hd3 hd4 hd5 hd6
              obtain rfl : b9 = false := Bool.eq_false_iff.2 (fun h => Bool.noConfusion (e9 h).1)
              obtain rfl : b10 = false := Bool.eq_false_iff.2 (fun h => Bool.noConfusion (e10 h))
              obtain rfl : b11 = false := Bool.eq_false_iff.2 (fun h => Bool.noConfusion (e11 h).2)
              obtain rfl : b13 = false := Bool.eq_false_iff.2 (fun h => Bool.noConfusion (e13 h).2)
              refine wpOpIn_step rfl (fun K hK => ?_)
              clear hun hdep hi
              go_simp
              refine ⟨trivial, (callsIn_wide.2 (HOW.out w' (HWI.out.trans ((hR.low rfl).mono HWI.out.size)))).mono ?_⟩
              rintro e w'' ⟨yv, rfl, hF, hb'⟩
              obtain ⟨yb, yc, rfl⟩ : ∃ g c, yv = .slice (some ⟨g, 0, none⟩) a c := by obtain ⟨g, c, e, _⟩ := id hF; exact ⟨g, c, by rw [e, HASL.out]⟩
              refine hK _ _ ⟨b0, b1, true, true, true, true, true, true, b8, false, false, false, b12, false, v', yb, yc, gz, cz, hb, ⟨e1, fun _ => rfl, fun _ => ⟨rfl, rfl⟩, fun _ => rfl, fun _ => rfl, fun h => Bool.noConfusion h, fun h => Bool.noConfusion h, fun h => Bool.noConfusion h, fun h => Bool.noConfusion h⟩, rfl, rfl, hR.call hF hb'⟩
            · -- 8
              simp only [List.getElem?_toArray, List.getElem?_cons_succ, List.getElem?_cons_zero, Option.some.injEq] at ho
              subst ho
              have hbi : b8 = false := by simpa using hun
              subst hbi
              obtain rfl : b9 = false := Bool.eq_false_iff.2 (fun h => Bool.noConfusion (e9 h).2)
              obtain rfl : b10 = false := Bool.eq_false_iff.2 (fun h => Bool.noConfusion (e10 h))
              obtain rfl : b11 = false := Bool.eq_false_iff.2 (fun h => Bool.noConfusion (e11 h).2)
              obtain rfl : b13 = false := Bool.eq_false_iff.2 (fun h => Bool.noConfusion (e13 h).2)
              refine wpOpIn_step rfl (fun K hK => ?_)
              clear hun hdep hi
              go_simp
              refine hK _ _ ⟨b0, b1, b2, b3, b4, b5, b6, b7, true, false, false, false, b12, false, v', gr, cr, gz, cz, hb, ⟨e1, e3, e5, e6, e7, fun h => Bool.noConfusion h, fun h => Bool.noConfusion h, fun h => Bool.noConfusion h, fun h => Bool.noConfusion h⟩, rfl, rfl, hR⟩
            · -- 9
              simp only [List.getElem?_toArray, List.getElem?_cons_succ, List.getElem?_cons_zero, Option.some.injEq] at ho
              subst ho
              have hbi : b9 = false := by simpa using hun
              subst hbi
              have hd7 : b7 = true := by have := hdep ⟨7, .data⟩ (by simp) rfl; simpa using this
              have hd8 : b8 = true := by have := hdep ⟨8, .data⟩ (by simp) rfl; simpa using this
              have hd6 : b6 = true := (e7 hd7)
              have hd5 : b5 = true := (e6 hd6)
              have hd4 : b4 = true := (e5 hd5).2
              have hd3 : b3 = true := (e5 hd5).1
              have hd2 : b2 = true := (e3 hd3)
              subst hd2 hd3 hd4 hd5 hd6 hd7 hd8
              obtain rfl : b10 = false := Bool.eq_false_iff.2 (fun h => Bool.noConfusion (e10 h))
              obtain rfl : b11 = false := Bool.eq_false_iff.2 (fun h => Bool.noConfusion (e11 h).2)
              obtain rfl : b13 = false := Bool.eq_false_iff.2 (fun h => Bool.noConfusion (e13 h).2)
              refine wpOpIn_step rfl (fun K hK => ?_)
              clear hun hdep hi
              refine PR.stepIn_append_zeros _ rfl _ _ 23 3 rfl 0 2 j0 Try.underlying23 Try.underlying3 hj' hyy0 hyy1 hyy2 (.slice (some ⟨gr, 0, none⟩) a cr) a m (As.map (Value.int .i64)) rfl (by have h := (hR.own rfl rfl).owns; rw [HASL.out] at h; exact h) rfl hn1 hm1 (by omega) (Nat.zero_le _) ?_
              intro g2 cap w'' hown hgrow hat hgl
              refine hK _ _ ⟨b0, b1, true, true, true, true, true, true, true, true, false, false, b12, false, v', gr, cr, g2, cap, hb, ⟨e1, fun _ => rfl, fun _ => ⟨rfl, rfl⟩, fun _ => rfl, fun _ => rfl, fun _ => ⟨rfl, rfl⟩, fun h => Bool.noConfusion h, fun h => Bool.noConfusion h, fun h => Bool.noConfusion h⟩, rfl, rfl, hR.zero_ HASL.out hown hgrow hat hgl⟩
            · -- 10
              simp only [List.getElem?_toArray, List.getElem?_cons_succ, List.getElem?_cons_zero, Option.some.injEq] at ho
              subst ho
              have hbi : b10 = false := by simpa using hun
              subst hbi
              have hd9 : b9 = true := by have := hdep ⟨9, .data⟩ (by simp) rfl; simpa using this
              have hd8 : b8 = true := (e9 hd9).2
              have hd7 : b7 = true := (e9 hd9).1
              have hd6 : b6 = true := (e7 hd7)
              have hd5 : b5 = true := (e6 hd6)
              have hd4 : b4 = true := (e5 hd5).2
              have hd3 : b3 = true := (e5 hd5).1
              have hd2 : b2 = true := (e3 hd3)
              subst hd2 hd3 hd4 hd5 hd6 hd7 hd8 hd9
              obtain rfl : b11 = false := Bool.eq_false_iff.2 (fun h => Bool.noConfusion (e11 h).2)
              obtain rfl : b13 = false := Bool.eq_false_iff.2 (fun h => Bool.noConfusion (e13 h).2)
              refine wpOpIn_step rfl (fun K hK => ?_)
              clear hun hdep hi
              go_simp
              refine hK _ _ ⟨b0, b1, true, true, true, true, true, true, true, true, true, false, b12, false, v', gr, cr, gz, cz, w'.heap.size, ⟨e1, fun _ => rfl, fun _ => ⟨rfl, rfl⟩, fun _ => rfl, fun _ => rfl, fun _ => ⟨rfl, rfl⟩, fun _ => rfl, fun h => Bool.noConfusion h, fun h => Bool.noConfusion h⟩, rfl, rfl, hR.box_⟩
            · -- 11
              simp only [List.getElem?_toArray, List.getElem?_cons_succ, List.getElem?_cons_zero, Option.some.injEq] at ho
              subst ho
              have hbi : b11 = false := by simpa using hun
              subst hbi
              have hd1 : b1 = true := by have := hdep ⟨1, .data⟩ (by simp) rfl; simpa using this
              have hd10 : b10 = true := by have := hdep ⟨10, .data⟩ (by simp) rfl; simpa using this
              have hd9 : b9 = true := (e10 hd10)
              have hd8 : b8 = true := (e9 hd9).2
              have hd7 : b7 = true := (e9 hd9).1
              have hd6 : b6 = true := (e7 hd7)
              have hd5 : b5 = true := (e6 hd6)
              have hd4 : b4 = true := (e5 hd5).2
              have hd3 : b3 = true := (e5 hd5).1
              have hd2 : b2 = true := (e3 hd3)
              have hd0 : b0 = true := (e1 hd1)
              subst hd0 hd1 hd2 hd3 hd4 hd5 hd6 hd7 hd8 hd9 hd10
              obtain rfl : b13 = false := Bool.eq_false_iff.2 (fun h => Bool.noConfusion (e13 h).2)
              refine wpOpIn_step rfl (fun K hK => ?_)
              clear hun hdep hi
              refine PR.stepIn_append_liesP _ rfl _ _ 22 rfl 0 23 i0 (.slice none 0 0) 1 24 Try.underlying22 hi' hzz0 hzz1 hzz2 rfl (by decide) v2 (a + j) us2 rfl (HPG.out.ownV (hR.low rfl) (grows_length g (a + m) (a + j))) ⟨hb, 0, none⟩ 1 1 [.slice (some ⟨gz, 0, none⟩) (a + m) cz] rfl rfl (news_one (hR.box rfl rfl)) (by simp [Value.oneCell']) (by decide) (by unfold maxLen; omega) (by omega) (Nat.zero_le _) ?_
              intro g2 cap w'' hown hgrow hat hgl
              refine hK _ _ ⟨true, true, true, true, true, true, true, true, true, true, true, true, b12, false, (.slice (some ⟨g2, 0, none⟩) (a + j + 1) cap), gr, cr, gz, cz, hb, ⟨fun _ => rfl, fun _ => rfl, fun _ => ⟨rfl, rfl⟩, fun _ => rfl, fun _ => rfl, fun _ => ⟨rfl, rfl⟩, fun _ => rfl, fun _ => ⟨rfl, rfl⟩, fun h => Bool.noConfusion h⟩, rfl, rfl, hR.app_ hown hgrow hat⟩
            · -- 12
              simp only [List.getElem?_toArray, List.getElem?_cons_succ, List.getElem?_cons_zero, Option.some.injEq] at ho
              subst ho
              have hbi : b12 = false := by simpa using hun
              subst hbi
              obtain rfl : b13 = false := Bool.eq_false_iff.2 (fun h => Bool.noConfusion (e13 h).1)
              refine wpOpIn_step rfl (fun K hK => ?_)
              clear hun hdep hi
              go_simp
              refine hK _ _ ⟨b0, b1, b2, b3, b4, b5, b6, b7, b8, b9, b10, b11, true, false, v', gr, cr, gz, cz, hb, ⟨e1, e3, e5, e6, e7, e9, e10, e11, fun h => Bool.noConfusion h⟩, rfl, rfl, hR⟩
            · -- 13
              simp only [List.getElem?_toArray, List.getElem?_cons_succ, List.getElem?_cons_zero, Option.some.injEq] at ho
              subst ho
              have hbi : b13 = false := by simpa using hun
              subst hbi
              have hd11 : b11 = true := by have := hdep ⟨11, .data⟩ (by simp) rfl; simpa using this
              have hd12 : b12 = true := by have := hdep ⟨12, .data⟩ (by simp) rfl; simpa using this
              have hd10 : b10 = true := (e11 hd11).2
              have hd9 : b9 = true := (e10 hd10)
              have hd8 : b8 = true := (e9 hd9).2
              have hd7 : b7 = true := (e9 hd9).1
              have hd6 : b6 = true := (e7 hd7)
              have hd5 : b5 = true := (e6 hd6)
              have hd4 : b4 = true := (e5 hd5).2
              have hd3 : b3 = true := (e5 hd5).1
              have hd2 : b2 = true := (e3 hd3)
              have hd1 : b1 = true := (e11 hd11).1
              have hd0 : b0 = true := (e1 hd1)
              subst hd0 hd1 hd2 hd3 hd4 hd5 hd6 hd7 hd8 hd9 hd10 hd11 hd12
              refine wpOpIn_step rfl (fun K hK => ?_)
              clear hun hdep hi
              obtain ⟨w3', g2, cap, rfl, hl3', _, _, hgr, _⟩ := hR.app rfl rfl
              obtain ⟨f1', f2', f3'⟩ := HPG.out.far hl3' hgr HPG.out.vN
              have t0 := (f2' 0).trans HPG.out.c1
              have t1 := f3' 0
              clear f1' f2' f3' hl3' hgr
              go_simp
              refine hK _ _ ⟨true, true, true, true, true, true, true, true, true, true, true, true, true, true, (.slice (some ⟨g2, 0, none⟩) (a + j + 1) cap), gr, cr, gz, cz, hb, ⟨fun _ => rfl, fun _ => rfl, fun _ => ⟨rfl, rfl⟩, fun _ => rfl, fun _ => rfl, fun _ => ⟨rfl, rfl⟩, fun _ => rfl, fun _ => ⟨rfl, rfl⟩, fun _ => ⟨rfl, rfl⟩⟩, rfl, rfl, hR.store_ HPG.out (grows_length g (a + m) (a + j)) HB.out⟩
        · obtain rfl : j = m := by omega
          have hz := hP.lt
          obtain ⟨hgw, k0, k1, k2, k3, z0, z1, zf, hz3⟩ := hg2
          have zf0 := zf 0
          have zf1 := zf 1
          have n0 := hP.c1
          have n1 := hP.c2
          have HQLj := HQL.out j (Nat.le_refl _)
          rw [HQA.out] at hP HQLj
          have hmr : grows g (a + j) (a + j) = tab (a + j) g := rfl
          rw [hmr] at hP
          obtain ⟨L, hLL⟩ : ∃ L, L = a + j := ⟨_, rfl⟩
          rw [← hLL] at hP HQLj ⊢
          obtain ⟨av, cv, rfl⟩ : ∃ b c, v2 = .slice b L c := by
            rcases hP.rows.rows.top.2 with ⟨rfl, hn⟩ | ⟨_, cap, cur, rfl, _⟩
            · rw [tab_length] at hn
              omega
            · exact ⟨_, cap, by rw [tab_length]⟩
          obtain ⟨aq, cq, hq⟩ := OwnI.shape hP.side
          rw [HQLj] at hq
          subst hq
          have HP2 := Lib.hid hP
          have HLL := Lib.hid hLL
          have hWs := HGC.out.b.size
          have hNX := hP.BN
          rw [HX.out] at hNX
          have HBW := Lib.hid ((hgw.setCell (p := ⟨w.heap.size + 1, 0, none⟩) (by show w.heap.size ≤ w.heap.size + 1; omega) (.slice av L cv)).setCell (p := ⟨w.heap.size + 1, 1, none⟩) (by show w.heap.size ≤ w.heap.size + 1; omega) (.slice aq L cq))
          have hXX := HX.out
          have hXl : w.heap.size + 1 < X := by omega
          have HXL := Lib.hid hXl
          clear hP hB hmr HB HP0 zf hgw HGC HX HQLj hLL hWs hNX hXX hXl k0 k1 k2 k3
          go_wp2_with fail
          refine bodyPost_ret (v := .agg #[.slice av L cv, .slice aq L cq]) (by simp [*, results, Try.results96, go_sem]) rfl ?_
          have hX2 := HXL.out
          have hL3 := HLL.out
          subst hL3
          have hk2 : ∀ b, b ≠ w.heap.size + 1 → ((wr.setCell ⟨w.heap.size + 1, 0, none⟩ (.slice av (a + j) cv)).setCell ⟨w.heap.size + 1, 1, none⟩ (.slice aq (a + j) cq)).heap[b]? = wr.heap[b]? := fun b hb => (Below.heap_setCell _ ⟨w.heap.size + 1, 1, none⟩ _ _ hb).trans (Below.heap_setCell _ ⟨w.heap.size + 1, 0, none⟩ _ _ hb)
          have hRs := HP2.out.rows.keepB (W' := (wr.setCell ⟨w.heap.size + 1, 0, none⟩ (.slice av (a + j) cv)).setCell ⟨w.heap.size + 1, 1, none⟩ (.slice aq (a + j) cq)) (by simp) (fun b hb => hk2 b (by have := (HP2.out.rows.mb b hb).1; omega)) (fun i b hi hb => hk2 b (by have := (HP2.out.rows.ub i b hi hb).1; omega))
          refine ⟨_, _, _, _, us2, rfl, ⟨hRs.rows, own_keep HP2.out.side (fun b hb => hk2 b (by have := (HP2.out.qb b hb).1; omega)), fun b hb => ?_, fun b hb => ?_, fun i b hi hb => ?_, fun b hb => ⟨own_apart HP2.out.side HP2.out.rows.rows.top (by decide) hb, fun i hi c => HP2.out.qu i b hi c hb⟩⟩, HBW.out⟩
          · have := hRs.mb b hb; omega
          · have := HP2.out.qb b hb; simp; omega
          · have := hRs.ub i b hi hb; omega
end Go.Proofs.Ytgncaploccbfnaa.PW
