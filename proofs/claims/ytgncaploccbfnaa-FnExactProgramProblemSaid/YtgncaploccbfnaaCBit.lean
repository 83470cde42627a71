/-
  Bits of numbers: the model's bit operations at int64, as operations on bit vectors and on naturals.
-/
import Derived.Laws.BitsLemmas
namespace Go.Proofs.Ytgncaploccbfnaa.PW
open Go

theorem xb_eq (x y : Int) : bits BinOp.xor IntKind.i64 x y = IntKind.i64.wrap ((BitVec.ofInt 64 x ^^^ BitVec.ofInt 64 y).toNat : Int) := rfl
theorem ab_eq (x y : Int) : bits BinOp.and IntKind.i64 x y = IntKind.i64.wrap ((BitVec.ofInt 64 x &&& BitVec.ofInt 64 y).toNat : Int) := rfl
theorem ob_eq (x y : Int) : bits BinOp.or IntKind.i64 x y = IntKind.i64.wrap ((BitVec.ofInt 64 x ||| BitVec.ofInt 64 y).toNat : Int) := rfl
theorem nb_eq (x y : Int) : bits BinOp.andNot IntKind.i64 x y = IntKind.i64.wrap ((BitVec.ofInt 64 x &&& ~~~ BitVec.ofInt 64 y).toNat : Int) := rfl
theorem xb_nat (a b : Nat) (ha : a < 2 ^ 62) (hb : b < 2 ^ 62) : bits BinOp.xor IntKind.i64 a b = ((a ^^^ b : Nat) : Int) := by
  have hp : (2 : Nat) ^ 62 ≤ 2 ^ 64 := by decide
  have ha' : a % 2 ^ 64 = a := Nat.mod_eq_of_lt (Nat.lt_of_lt_of_le ha hp)
  have hb' : b % 2 ^ 64 = b := Nat.mod_eq_of_lt (Nat.lt_of_lt_of_le hb hp)
  have hx : a ^^^ b < 2 ^ 62 := Nat.xor_lt_two_pow ha hb
  rw [xb_eq, BitVec.ofInt_natCast, BitVec.ofInt_natCast, BitVec.toNat_xor, BitVec.toNat_ofNat, BitVec.toNat_ofNat, ha', hb', IntKind.wrap_i64]
  have : (2 : Nat) ^ 62 = 4611686018427387904 := by decide
  omega
theorem ab_nat (a b : Nat) (ha : a < 2 ^ 62) (hb : b < 2 ^ 62) : bits BinOp.and IntKind.i64 a b = ((a &&& b : Nat) : Int) := by
  have hp : (2 : Nat) ^ 62 ≤ 2 ^ 64 := by decide
  have ha' : a % 2 ^ 64 = a := Nat.mod_eq_of_lt (Nat.lt_of_lt_of_le ha hp)
  have hb' : b % 2 ^ 64 = b := Nat.mod_eq_of_lt (Nat.lt_of_lt_of_le hb hp)
  have hx : a &&& b < 2 ^ 62 := Nat.and_lt_two_pow _ hb
  rw [ab_eq, BitVec.ofInt_natCast, BitVec.ofInt_natCast, BitVec.toNat_and, BitVec.toNat_ofNat, BitVec.toNat_ofNat, ha', hb', IntKind.wrap_i64]
  have : (2 : Nat) ^ 62 = 4611686018427387904 := by decide
  omega
theorem ob_nat (a b : Nat) (ha : a < 2 ^ 62) (hb : b < 2 ^ 62) : bits BinOp.or IntKind.i64 a b = ((a ||| b : Nat) : Int) := by
  have hp : (2 : Nat) ^ 62 ≤ 2 ^ 64 := by decide
  have ha' : a % 2 ^ 64 = a := Nat.mod_eq_of_lt (Nat.lt_of_lt_of_le ha hp)
  have hb' : b % 2 ^ 64 = b := Nat.mod_eq_of_lt (Nat.lt_of_lt_of_le hb hp)
  have hx : a ||| b < 2 ^ 62 := Nat.or_lt_two_pow ha hb
  rw [ob_eq, BitVec.ofInt_natCast, BitVec.ofInt_natCast, BitVec.toNat_or, BitVec.toNat_ofNat, BitVec.toNat_ofNat, ha', hb', IntKind.wrap_i64]
  have : (2 : Nat) ^ 62 = 4611686018427387904 := by decide
  omega
/-- What of a is not in b. -/
def andn (a b : Nat) : Nat := a ^^^ (a &&& b)
theorem andn_bit (a b i : Nat) : (andn a b).testBit i = (a.testBit i && !b.testBit i) := by
  unfold andn
  rw [Nat.testBit_xor, Nat.testBit_and]
  cases a.testBit i <;> cases b.testBit i <;> rfl
theorem andn_lt {a b n : Nat} (h : a < 2 ^ n) : andn a b < 2 ^ n := Nat.xor_lt_two_pow h (Nat.lt_of_le_of_lt Nat.and_le_left h)
theorem nb_nat (a b : Nat) (ha : a < 2 ^ 62) : bits BinOp.andNot IntKind.i64 a b = ((andn a b : Nat) : Int) := by
  have hx : andn a b < 2 ^ 62 := andn_lt ha
  have e : (BitVec.ofNat 64 a &&& ~~~ BitVec.ofNat 64 b).toNat = andn a b := by
    apply Nat.eq_of_testBit_eq
    intro i
    rw [andn_bit, BitVec.testBit_toNat, BitVec.getLsbD_and, BitVec.getLsbD_not, BitVec.getLsbD_ofNat, BitVec.getLsbD_ofNat]
    by_cases hi : i < 64
    · simp [hi]
    · have : a.testBit i = false := Nat.testBit_lt_two_pow (Nat.lt_of_lt_of_le ha (Nat.pow_le_pow_right (by decide) (by omega)))
      simp [this]
  rw [nb_eq, BitVec.ofInt_natCast, BitVec.ofInt_natCast, e, IntKind.wrap_i64]
  have : (2 : Nat) ^ 62 = 4611686018427387904 := by decide
  omega
/-- The model's wrap of a bit vector's number is its signed one. -/
theorem wrap_toNat (x : BitVec 64) : IntKind.i64.wrap (x.toNat : Int) = x.toInt := by
  rw [IntKind.wrap_i64, BitVec.toInt_eq_toNat_cond]
  have := x.isLt
  split <;> omega
theorem shr_bv (x : BitVec 64) (i : Nat) : x.toInt / 2 ^ i = (x.sshiftRight i).toInt := by
  rw [BitVec.toInt_sshiftRight, Int.shiftRight_eq_div_pow]
  norm_cast
theorem bit0_bv (x : BitVec 64) : (x &&& 1#64).toNat = if x.getLsbD 0 then 1 else 0 := by
  rw [BitVec.toNat_and, show (1#64).toNat = 1 from rfl, Nat.and_one_is_mod, BitVec.getLsbD]
  rw [Nat.testBit_zero]
  by_cases h : x.toNat % 2 = 1
  · simp [h]
  · have : x.toNat % 2 = 0 := by omega
    simp [this]
theorem pow_bv : ∀ i : Fin 63, BitVec.ofInt 64 (2 ^ i.val) = BitVec.twoPow 64 i.val := by decide +kernel
/-- Two numbers differ in the bit i: as the program tests it, and as the model does. -/
theorem nbr_iff (x y : Int) (i : Nat) (hi : i < 63) : bits BinOp.and IntKind.i64 (bits BinOp.xor IntKind.i64 x y / 2 ^ i) 1 = 0 ↔ bits BinOp.and IntKind.i64 x (2 ^ i) = bits BinOp.and IntKind.i64 y (2 ^ i) := by
  have hp := pow_bv ⟨i, hi⟩
  dsimp only at hp
  rw [xb_eq, ab_eq, ab_eq, ab_eq, hp]
  generalize BitVec.ofInt 64 x = X
  generalize BitVec.ofInt 64 y = Y
  rw [wrap_toNat, wrap_toNat, wrap_toNat, shr_bv, BitVec.ofInt_toInt, show BitVec.ofInt 64 1 = 1#64 from rfl, wrap_toNat]
  constructor
  · intro h
    have h0 : (X ^^^ Y).sshiftRight i &&& 1#64 = 0#64 := BitVec.eq_of_toInt_eq (by rw [h]; rfl)
    have h1 := bit0_bv ((X ^^^ Y).sshiftRight i)
    rw [h0] at h1
    have h2 : ((X ^^^ Y).sshiftRight i).getLsbD 0 = false := by
      cases hc : ((X ^^^ Y).sshiftRight i).getLsbD 0
      · rfl
      · rw [hc] at h1; simp at h1
    rw [BitVec.getLsbD_sshiftRight] at h2
    have h3 : X.getLsbD i = Y.getLsbD i := by
      have : i < 64 := by omega
      simp [this] at h2
      exact h2
    rw [BitVec.and_twoPow, BitVec.and_twoPow, h3]
  · intro h
    have h0 := BitVec.eq_of_toInt_eq h
    rw [BitVec.and_twoPow, BitVec.and_twoPow] at h0
    have h3 : X.getLsbD i = Y.getLsbD i := by
      have hne : BitVec.twoPow 64 i ≠ 0#64 := fun e => by
        have := congrArg (fun v => v.getLsbD i) e
        simp at this
        omega
      cases hx : X.getLsbD i <;> cases hy : Y.getLsbD i <;> simp [hx, hy] at h0 ⊢
      · exact hne h0.symm
      · exact hne h0
    have h2 : ((X ^^^ Y).sshiftRight i).getLsbD 0 = false := by
      rw [BitVec.getLsbD_sshiftRight]
      have : i < 64 := by omega
      simp [this]
      rw [BitVec.getLsbD_eq_getElem this, BitVec.getLsbD_eq_getElem this] at h3
      exact h3
    have h1 := bit0_bv ((X ^^^ Y).sshiftRight i)
    rw [h2] at h1
    have : (X ^^^ Y).sshiftRight i &&& 1#64 = 0#64 := BitVec.eq_of_toNat_eq (by rw [h1]; rfl)
    rw [this]
    rfl
end Go.Proofs.Ytgncaploccbfnaa.PW
