/-
  Plain facts on ranges of versions (chapter 4): an Op's bits, an EVR in a range, two ranges that meet. Nothing of the program is named here. Conditions: as each theorem states.
-/
import Derived.Test.YtncononmlgmabaaDoorMathOrd03
import Derived.WalkKit
namespace Go.Proofs.YtncononmlgmabaaDoor
namespace Span
open Go.RowKit

/-- Whether an Op is valid; its text. -/
def mayO (o : Nat) : Bool := o == 0 || o == 1 || o == 2 || o == 3 || o == 4 || o == 6
def textO (o : Nat) : ByteArray := match o with | 1 => ⟨#[60]⟩ | 2 => ⟨#[61]⟩ | 3 => ⟨#[60, 61]⟩ | 4 => ⟨#[62]⟩ | 6 => ⟨#[62, 61]⟩ | _ => ⟨#[]⟩
def parseL (l : List UInt8) : Nat × Bool :=
  if l = [] then (0, true) else if l = [60] then (1, true) else if l = [61] then (2, true) else if l = [60, 61] then (3, true) else if l = [62] then (4, true) else if l = [62, 61] then (6, true) else (0, false)
/-- An EVR in a range of Op o, where it compares with the range's as c says. -/
def hasO (o : Nat) (c : Int) : Bool := o % 8 == 0 || (if c < 0 then o % 2 == 1 else if c = 0 then o / 2 % 2 == 1 else o / 4 % 2 == 1)
/-- Two ranges, of Ops a and b, whose EVRs compare as c says. -/
def meetO (a b : Nat) (c : Int) : Bool := a % 8 == 0 || b % 8 == 0 ||
  (if c < 0 then a / 4 % 2 == 1 || b % 2 == 1 else if 0 < c then a % 2 == 1 || b / 4 % 2 == 1 else (a % 2 == 1 && b % 2 == 1) || (a / 2 % 2 == 1 && b / 2 % 2 == 1) || (a / 4 % 2 == 1 && b / 4 % 2 == 1))

theorem and_nat (a b : Nat) (ha : a < 256) (hb : b < 256) : bits .and .u8 (a : Int) (b : Int) = ((a &&& b : Nat) : Int) := by
  have h : ∀ n : Nat, n < 256 → (BitVec.ofInt 8 (n : Int)).toNat = n := fun n hn => by
    rw [BitVec.ofInt_natCast, BitVec.toNat_ofNat]
    exact Nat.mod_eq_of_lt hn
  have hx : a &&& b ≤ a := Nat.and_le_left
  change IntKind.u8.wrap ((BitVec.ofInt 8 (a : Int) &&& BitVec.ofInt 8 (b : Int)).toNat : Int) = _
  rw [BitVec.toNat_and, h a ha, h b hb]
  rw [IntKind.wrap_u8]
  omega
theorem or_nat8 (a b : Nat) (ha : a < 256) (hb : b < 256) : bits .or .u8 (a : Int) (b : Int) = ((a ||| b : Nat) : Int) := by
  have h : ∀ n : Nat, n < 256 → (BitVec.ofInt 8 (n : Int)).toNat = n := fun n hn => by
    rw [BitVec.ofInt_natCast, BitVec.toNat_ofNat]
    exact Nat.mod_eq_of_lt hn
  have hx : a ||| b < 2 ^ 8 := Nat.or_lt_two_pow (by omega) (by omega)
  change IntKind.u8.wrap ((BitVec.ofInt 8 (a : Int) ||| BitVec.ofInt 8 (b : Int)).toNat : Int) = _
  rw [BitVec.toNat_or, h a ha, h b hb]
  rw [IntKind.wrap_u8]
  omega
theorem bit_one (o : Nat) (h : o < 256) : bits .and .u8 (o : Int) 1 = ((o % 2 : Nat) : Int) := by
  have := and_nat o 1 h (by omega)
  rw [show o &&& 1 = o % 2 from (by decide +kernel : ∀ o : Fin 256, o.val &&& 1 = o.val % 2) ⟨o, h⟩] at this
  exact this
theorem bit_two (o : Nat) (h : o < 256) : bits .and .u8 (o : Int) 2 = ((o / 2 % 2 * 2 : Nat) : Int) := by
  have := and_nat o 2 h (by omega)
  rw [show o &&& 2 = o / 2 % 2 * 2 from (by decide +kernel : ∀ o : Fin 256, o.val &&& 2 = o.val / 2 % 2 * 2) ⟨o, h⟩] at this
  exact this
theorem bit_four (o : Nat) (h : o < 256) : bits .and .u8 (o : Int) 4 = ((o / 4 % 2 * 4 : Nat) : Int) := by
  have := and_nat o 4 h (by omega)
  rw [show o &&& 4 = o / 4 % 2 * 4 from (by decide +kernel : ∀ o : Fin 256, o.val &&& 4 = o.val / 4 % 2 * 4) ⟨o, h⟩] at this
  exact this
theorem bit_seven (o : Nat) (h : o < 256) : bits .and .u8 (o : Int) 7 = ((o % 8 : Nat) : Int) := by
  have := and_nat o 7 h (by omega)
  rw [show o &&& 7 = o % 8 from (by decide +kernel : ∀ o : Fin 256, o.val &&& 7 = o.val % 8) ⟨o, h⟩] at this
  exact this
theorem both_seven (a b : Nat) (ha : a < 256) (hb : b < 256) : bits .and .u8 (bits .and .u8 (a : Int) (b : Int)) 7 = (((a % 8) &&& (b % 8) : Nat) : Int) := by
  have hx : a &&& b ≤ a := Nat.and_le_left
  rw [and_nat a b ha hb, bit_seven _ (by omega), show (8 : Nat) = 2 ^ 3 from rfl, Nat.and_mod_two_pow]
theorem has_mod (o : Nat) (c : Int) : hasO o c = hasO (o % 8) c := by
  unfold hasO
  rw [show o % 8 % 8 = o % 8 by omega, show o % 8 % 2 = o % 2 by omega, show o % 8 / 2 % 2 = o / 2 % 2 by omega, show o % 8 / 4 % 2 = o / 4 % 2 by omega]
theorem meet_mod (a b : Nat) (c : Int) : meetO a b c = meetO (a % 8) (b % 8) c := by
  unfold meetO
  simp only [show ∀ o, o % 8 % 8 = o % 8 from fun o => by omega, show ∀ o, o % 8 % 2 = o % 2 from fun o => by omega, show ∀ o, o % 8 / 2 % 2 = o / 2 % 2 from fun o => by omega, show ∀ o, o % 8 / 4 % 2 = o / 4 % 2 from fun o => by omega]
theorem small (o : Nat) : o % 8 < 8 := Nat.mod_lt _ (by omega)
theorem three {c : Int} (h : -1 ≤ c ∧ c ≤ 1) : c = -1 ∨ c = 0 ∨ c = 1 := by omega
theorem both_bits (a b : Nat) : ((a % 8) &&& (b % 8) ≠ 0) ↔ ((a % 2 = 1 ∧ b % 2 = 1) ∨ (a / 2 % 2 = 1 ∧ b / 2 % 2 = 1) ∨ (a / 4 % 2 = 1 ∧ b / 4 % 2 = 1)) := by
  have h := (by decide +kernel : ∀ x y : Fin 8, (x.val &&& y.val ≠ 0) ↔ ((x.val % 2 = 1 ∧ y.val % 2 = 1) ∨ (x.val / 2 % 2 = 1 ∧ y.val / 2 % 2 = 1) ∨ (x.val / 4 % 2 = 1 ∧ y.val / 4 % 2 = 1))) ⟨_, small a⟩ ⟨_, small b⟩
  simpa only [show ∀ o, o % 8 % 2 = o % 2 from fun o => by omega, show ∀ o, o % 8 / 2 % 2 = o / 2 % 2 from fun o => by omega, show ∀ o, o % 8 / 4 % 2 = o / 4 % 2 from fun o => by omega] using h
end Span
end Go.Proofs.YtncononmlgmabaaDoor
