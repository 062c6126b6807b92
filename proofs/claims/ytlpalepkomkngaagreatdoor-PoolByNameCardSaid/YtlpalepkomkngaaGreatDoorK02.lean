/-
  Plain facts on ranges of versions (chapter 4): an Op's bits, an EVR in a range, two ranges that meet. Nothing of the program is named here. Plain facts on plain dependencies (chapter 6): which names may be, a dependency's words, its text, and back. Nothing of the program is named here. Plain facts on the bytes of a number (seven bits each, the lowest first): nothing of the program is named here. Conditions: none. Conditions: as each theorem states.
-/
import Derived.Test.YtlpalepkomkngaaGreatDoorK01
import Derived.WalkKit
import Derived.Lib.SplitLaws
import Derived.Lib.Join
namespace Go.Proofs.YtlpalepkomkngaaGreatDoor
namespace Span
open Go.RowKit

/-- Whether an Op is valid; its text. -/
def mayO (o : Nat) : Bool := o == 0 || o == 1 || o == 2 || o == 3 || o == 4 || o == 6
def textO (o : Nat) : ByteArray := match o with | 1 => ⟨#[60]⟩ | 2 => ⟨#[61]⟩ | 3 => ⟨#[60, 61]⟩ | 4 => ⟨#[62]⟩ | 6 => ⟨#[62, 61]⟩ | _ => ⟨#[]⟩
def parseL (l : List UInt8) : Nat × Bool :=
  if l = [] then (0, true) else if l = [60] then (1, true) else if l = [61] then (2, true) else if l = [60, 61] then (3, true) else if l = [62] then (4, true) else if l = [62, 61] then (6, true) else (0, false)
/-- An EVR in a range of Op o, where it compares with the range's as c says. -/
def hasO (o : Nat) (c : Int) : Bool := o % 8 == 0 || (if c < 0 then o % 2 == 1 else if c = 0 then o / 2 % 2 == 1 else o / 4 % 2 == 1)
/-- Two ranges, of Ops a and b, whose EVRs compare as c says. -/
def meetO (a b : Nat) (c : Int) : Bool := a % 8 == 0 || b % 8 == 0 ||
  (if c < 0 then a / 4 % 2 == 1 || b % 2 == 1 else if 0 < c then a % 2 == 1 || b / 4 % 2 == 1 else (a % 2 == 1 && b % 2 == 1) || (a / 2 % 2 == 1 && b / 2 % 2 == 1) || (a / 4 % 2 == 1 && b / 4 % 2 == 1))

theorem and_nat (a b : Nat) (ha : a < 256) (hb : b < 256) : bits .and .u8 (a : Int) (b : Int) = ((a &&& b : Nat) : Int) := by
  have h : ∀ n : Nat, n < 256 → (BitVec.ofInt 8 (n : Int)).toNat = n := fun n hn => by
    rw [BitVec.ofInt_natCast, BitVec.toNat_ofNat]
    exact Nat.mod_eq_of_lt hn
  have hx : a &&& b ≤ a := Nat.and_le_left
  change IntKind.u8.wrap ((BitVec.ofInt 8 (a : Int) &&& BitVec.ofInt 8 (b : Int)).toNat : Int) = _
  rw [BitVec.toNat_and, h a ha, h b hb]
  rw [IntKind.wrap_u8]
  omega
theorem or_nat8 (a b : Nat) (ha : a < 256) (hb : b < 256) : bits .or .u8 (a : Int) (b : Int) = ((a ||| b : Nat) : Int) := by
  have h : ∀ n : Nat, n < 256 → (BitVec.ofInt 8 (n : Int)).toNat = n := fun n hn => by
    rw [BitVec.ofInt_natCast, BitVec.toNat_ofNat]
    exact Nat.mod_eq_of_lt hn
  have hx : a ||| b < 2 ^ 8 := Nat.or_lt_two_pow (by omega) (by omega)
  change IntKind.u8.wrap ((BitVec.ofInt 8 (a : Int) ||| BitVec.ofInt 8 (b : Int)).toNat : Int) = _
  rw [BitVec.toNat_or, h a ha, h b hb]
  rw [IntKind.wrap_u8]
  omega
theorem bit_one (o : Nat) (h : o < 256) : bits .and .u8 (o : Int) 1 = ((o % 2 : Nat) : Int) := by
  have := and_nat o 1 h (by omega)
  rw [show o &&& 1 = o % 2 from (by decide +kernel : ∀ o : Fin 256, o.val &&& 1 = o.val % 2) ⟨o, h⟩] at this
  exact this
theorem bit_two (o : Nat) (h : o < 256) : bits .and .u8 (o : Int) 2 = ((o / 2 % 2 * 2 : Nat) : Int) := by
  have := and_nat o 2 h (by omega)
  rw [show o &&& 2 = o / 2 % 2 * 2 from (by decide +kernel : ∀ o : Fin 256, o.val &&& 2 = o.val / 2 % 2 * 2) ⟨o, h⟩] at this
  exact this
theorem bit_four (o : Nat) (h : o < 256) : bits .and .u8 (o : Int) 4 = ((o / 4 % 2 * 4 : Nat) : Int) := by
  have := and_nat o 4 h (by omega)
  rw [show o &&& 4 = o / 4 % 2 * 4 from (by decide +kernel : ∀ o : Fin 256, o.val &&& 4 = o.val / 4 % 2 * 4) ⟨o, h⟩] at this
  exact this
theorem bit_seven (o : Nat) (h : o < 256) : bits .and .u8 (o : Int) 7 = ((o % 8 : Nat) : Int) := by
  have := and_nat o 7 h (by omega)
  rw [show o &&& 7 = o % 8 from (by decide +kernel : ∀ o : Fin 256, o.val &&& 7 = o.val % 8) ⟨o, h⟩] at this
  exact this
theorem both_seven (a b : Nat) (ha : a < 256) (hb : b < 256) : bits .and .u8 (bits .and .u8 (a : Int) (b : Int)) 7 = (((a % 8) &&& (b % 8) : Nat) : Int) := by
  have hx : a &&& b ≤ a := Nat.and_le_left
  rw [and_nat a b ha hb, bit_seven _ (by omega), show (8 : Nat) = 2 ^ 3 from rfl, Nat.and_mod_two_pow]
theorem has_mod (o : Nat) (c : Int) : hasO o c = hasO (o % 8) c := by
  unfold hasO
  rw [show o % 8 % 8 = o % 8 by omega, show o % 8 % 2 = o % 2 by omega, show o % 8 / 2 % 2 = o / 2 % 2 by omega, show o % 8 / 4 % 2 = o / 4 % 2 by omega]
theorem meet_mod (a b : Nat) (c : Int) : meetO a b c = meetO (a % 8) (b % 8) c := by
  unfold meetO
  simp only [show ∀ o, o % 8 % 8 = o % 8 from fun o => by omega, show ∀ o, o % 8 % 2 = o % 2 from fun o => by omega, show ∀ o, o % 8 / 2 % 2 = o / 2 % 2 from fun o => by omega, show ∀ o, o % 8 / 4 % 2 = o / 4 % 2 from fun o => by omega]
theorem small (o : Nat) : o % 8 < 8 := Nat.mod_lt _ (by omega)
theorem three {c : Int} (h : -1 ≤ c ∧ c ≤ 1) : c = -1 ∨ c = 0 ∨ c = 1 := by omega
theorem both_bits (a b : Nat) : ((a % 8) &&& (b % 8) ≠ 0) ↔ ((a % 2 = 1 ∧ b % 2 = 1) ∨ (a / 2 % 2 = 1 ∧ b / 2 % 2 = 1) ∨ (a / 4 % 2 = 1 ∧ b / 4 % 2 = 1)) := by
  have h := (by decide +kernel : ∀ x y : Fin 8, (x.val &&& y.val ≠ 0) ↔ ((x.val % 2 = 1 ∧ y.val % 2 = 1) ∨ (x.val / 2 % 2 = 1 ∧ y.val / 2 % 2 = 1) ∨ (x.val / 4 % 2 = 1 ∧ y.val / 4 % 2 = 1))) ⟨_, small a⟩ ⟨_, small b⟩
  simpa only [show ∀ o, o % 8 % 2 = o % 2 from fun o => by omega, show ∀ o, o % 8 / 2 % 2 = o / 2 % 2 from fun o => by omega, show ∀ o, o % 8 / 4 % 2 = o / 4 % 2 from fun o => by omega] using h
end Span
end Go.Proofs.YtlpalepkomkngaaGreatDoor

namespace Go.Proofs.YtlpalepkomkngaaGreatDoor
namespace Dep
open Ver Evr Span

def signD (b : UInt8) : Bool := okB b || decide (b.toNat = 45) || decide (b.toNat = 47) || decide (b.toNat = 58) || decide (b.toNat = 64)
def noNames : List (List UInt8) := [[97, 110, 100], [111, 114], [105, 102], [101, 108, 115, 101], [117, 110, 108, 101, 115, 115], [119, 105, 116, 104], [119, 105, 116, 104, 111, 117, 116]]
def nameD (s : List UInt8) : Bool := decide (1 ≤ s.length) && decide (s.length ≤ 64) && !noNames.contains s && s.all signD
def fileD (s : List UInt8) : Bool := nameD s && s.head? == some 47
structure D where
  name : List UInt8
  op : Nat
  evr : E
def zeroD : E := ⟨0, [], []⟩
def noE (e : E) : Bool := decide (e.epoch = 0) && decide (e.ver = []) && decide (e.rel = [])
def mayD (d : D) : Bool := nameD d.name && mayO d.op && (if d.op = 0 then noE d.evr else !fileD d.name && mayE d.evr true)
def textL (o : Nat) : List UInt8 := (textO o).data.toList
def wordsD (d : D) : List (List UInt8) := if d.op = 0 then [d.name] else [d.name, textL d.op, showE d.evr]
def splitD : List UInt8 → List (List UInt8)
  | [] => [[]]
  | b :: l => if b = 32 then [] :: splitD l else match splitD l with
    | [] => [[b]]
    | x :: r => (b :: x) :: r
def joinD : List (List UInt8) → List UInt8
  | [] => []
  | [x] => x
  | x :: y :: r => x ++ 32 :: joinD (y :: r)
def showD (d : D) : List UInt8 := joinD (wordsD d)
def threeD (n o v : List UInt8) : Option D := match parseE v with
  | some e => if (parseL o).2 = true ∧ mayD ⟨n, (parseL o).1, e⟩ = true then some ⟨n, (parseL o).1, e⟩ else none
  | none => none
def ofD : List (List UInt8) → Option D
  | [n] => if nameD n = true then some ⟨n, 0, zeroD⟩ else none
  | [n, o, v] => threeD n o v
  | _ => none
def parseD (s : List UInt8) : Option D := ofD (splitD s)

theorem of_one (n : List UInt8) : ofD [n] = if nameD n = true then some ⟨n, 0, zeroD⟩ else none := rfl
theorem of_three (n o v : List UInt8) : ofD [n, o, v] = threeD n o v := rfl
theorem of_other : ∀ ws : List (List UInt8), ws.length ≠ 1 → ws.length ≠ 3 → ofD ws = none
  | [], _, _ => rfl
  | [_], h, _ => absurd rfl h
  | [_, _], _, _ => rfl
  | [_, _, _], _, h => absurd rfl h
  | _ :: _ :: _ :: _ :: _, _, _ => rfl
theorem noE_iff {e : E} : noE e = true ↔ e = zeroD := by
  unfold noE zeroD
  cases e
  simp [and_assoc]
theorem may_any {n : List UInt8} {e : E} : mayD ⟨n, 0, e⟩ = (nameD n && noE e) := by
  unfold mayD
  simp [mayO]
theorem may_op {n : List UInt8} {o : Nat} {e : E} (h : o ≠ 0) : mayD ⟨n, o, e⟩ = (nameD n && mayO o && (!fileD n && mayE e true)) := by
  unfold mayD
  simp [h]
theorem op_back {o : Nat} (h : mayO o = true) : parseL (textL o) = (o, true) := by
  have : o = 0 ∨ o = 1 ∨ o = 2 ∨ o = 3 ∨ o = 4 ∨ o = 6 := by
    unfold mayO at h
    simp at h
    omega
  rcases this with rfl | rfl | rfl | rfl | rfl | rfl <;> rfl
theorem op_text {l : List UInt8} (h : (parseL l).2 = true) : textL (parseL l).1 = l ∧ mayO (parseL l).1 = true := by
  unfold parseL at h ⊢
  by_cases e1 : l = []
  · subst e1; exact ⟨rfl, rfl⟩
  by_cases e2 : l = [60]
  · subst e2; exact ⟨rfl, rfl⟩
  by_cases e3 : l = [61]
  · subst e3; exact ⟨rfl, rfl⟩
  by_cases e4 : l = [60, 61]
  · subst e4; exact ⟨rfl, rfl⟩
  by_cases e5 : l = [62]
  · subst e5; exact ⟨rfl, rfl⟩
  by_cases e6 : l = [62, 61]
  · subst e6; exact ⟨rfl, rfl⟩
  rw [if_neg e1, if_neg e2, if_neg e3, if_neg e4, if_neg e5, if_neg e6] at h
  cases h
theorem ver_some {v : List UInt8} {e : E} (h : parseE v = some e) : noE e = false := by
  obtain ⟨h1, _⟩ := show_parse h
  obtain ⟨_, _, h2, _⟩ := may_parts h1
  have h3 := (word_ok h2).2.1
  unfold noE
  cases hv : e.ver with
  | nil => rw [hv] at h3; simp at h3
  | cons b l => simp
/-- Of words: the dependency. -/
theorem of_words {d : D} (h : mayD d = true) : ofD (wordsD d) = some d := by
  obtain ⟨n, o, e⟩ := d
  by_cases h0 : o = 0
  · subst h0
    rw [may_any, Bool.and_eq_true] at h
    show ofD [n] = _
    rw [of_one, if_pos h.1, noE_iff.1 h.2]
  · have h2 := h
    rw [may_op h0] at h
    simp only [Bool.and_eq_true] at h
    obtain ⟨⟨_, h3⟩, _, h4⟩ := h
    have e1 : wordsD ⟨n, o, e⟩ = [n, textL o, showE e] := by unfold wordsD; rw [if_neg h0]
    rw [e1]
    show threeD n (textL o) (showE e) = _
    unfold threeD
    rw [parse_show h4, op_back h3]
    simp [h2]
theorem threeD_some {n o v : List UInt8} {d : D} (h : threeD n o v = some d) : ∃ e, parseE v = some e ∧ (parseL o).2 = true ∧ mayD ⟨n, (parseL o).1, e⟩ = true ∧ d = ⟨n, (parseL o).1, e⟩ := by
  unfold threeD at h
  cases hp : parseE v with
  | none => rw [hp] at h; cases h
  | some e =>
    rw [hp] at h
    simp only at h
    split at h
    · rename_i hc
      injection h with h
      exact ⟨e, rfl, hc.1, hc.2, h.symm⟩
    · cases h
theorem words_of {ws : List (List UInt8)} {d : D} (h : ofD ws = some d) : mayD d = true ∧ wordsD d = ws := by
  match ws, h with
  | [n], h =>
    rw [of_one] at h
    split at h
    · rename_i hc
      injection h with h
      subst h
      exact ⟨by rw [may_any, hc]; rfl, rfl⟩
    · cases h
  | [n, o, v], h =>
    obtain ⟨e, h1, h2, h3, rfl⟩ := threeD_some (show threeD n o v = some d from h)
    refine ⟨h3, ?_⟩
    obtain ⟨t1, t2⟩ := op_text h2
    have h0 : (parseL o).1 ≠ 0 := by
      intro h0
      rw [h0, may_any, ver_some h1] at h3
      simp at h3
    unfold wordsD
    simp only [h0, if_false]
    rw [t1, (show_parse h1).2]
theorem split_ne (s : List UInt8) : splitD s ≠ [] := by
  cases s with
  | nil => simp [splitD]
  | cons b l =>
    unfold splitD
    split
    · simp
    · split <;> simp
theorem split_space (l : List UInt8) : splitD (32 :: l) = [] :: splitD l := by rw [splitD, if_pos rfl]
theorem split_other {b : UInt8} {l x : List UInt8} {r : List (List UInt8)} (hb : b ≠ 32) (h : splitD l = x :: r) : splitD (b :: l) = (b :: x) :: r := by
  rw [splitD, if_neg hb, h]
/-- A text cut at its spaces, and put together. -/
theorem join_split : ∀ s : List UInt8, joinD (splitD s) = s
  | [] => rfl
  | b :: l => by
    have ih := join_split l
    cases h : splitD l with
    | nil => exact absurd h (split_ne l)
    | cons x r =>
      rw [h] at ih
      by_cases hb : b = 32
      · subst hb
        rw [split_space, h]
        show [] ++ 32 :: joinD (x :: r) = _
        rw [ih]; rfl
      · rw [split_other hb h]
        cases r with
        | nil => rw [← ih]; rfl
        | cons y r => rw [← ih]; rfl
theorem split_word : ∀ (x l : List UInt8), (∀ b ∈ x, b ≠ 32) → splitD (x ++ 32 :: l) = x :: splitD l
  | [], l, _ => split_space l
  | b :: x, l, h => split_other (h b (by simp)) (split_word x l (fun c hc => h c (by simp [hc])))
theorem split_last : ∀ x : List UInt8, (∀ b ∈ x, b ≠ 32) → splitD x = [x]
  | [], _ => rfl
  | b :: x, h => split_other (h b (by simp)) (split_last x (fun c hc => h c (by simp [hc])))
theorem split_join : ∀ ws : List (List UInt8), ws ≠ [] → (∀ x ∈ ws, ∀ b ∈ x, b ≠ 32) → splitD (joinD ws) = ws
  | [], h, _ => absurd rfl h
  | [x], _, h => split_last x (h x (by simp))
  | x :: y :: r, _, h => by
    show splitD (x ++ 32 :: joinD (y :: r)) = _
    rw [split_word x _ (h x (by simp)), split_join (y :: r) (by simp) (fun z hz => h z (by simp [hz]))]
theorem split_count : ∀ s : List UInt8, (splitD s).length = s.count 32 + 1
  | [] => rfl
  | b :: l => by
    have ih := split_count l
    by_cases hb : b = 32
    · subst hb
      rw [split_space, List.length_cons, ih, List.count_cons_self]
    · cases h : splitD l with
      | nil => exact absurd h (split_ne l)
      | cons x r =>
        rw [split_other hb h, List.count_cons_of_ne (by simpa using hb), ← ih, h]
        rfl
/-- A byte that may stand in a dependency's text. -/
def okT (b : UInt8) : Bool := signD b || decide (b.toNat = 60) || decide (b.toNat = 61) || decide (b.toNat = 62)
theorem sign_okT {b : UInt8} (h : signD b = true) : okT b = true := by unfold okT; simp [h]
theorem okB_okT {b : UInt8} (h : okB b = true) : okT b = true := sign_okT (by unfold signD; simp [h])
theorem dig_okT {b : UInt8} (h : isDig b = true) : okT b = true := by
  apply okB_okT
  unfold isDig at h
  unfold okB
  simp at h ⊢
  omega
theorem okT_ne {b : UInt8} (h : okT b = true) : b ≠ 32 := by
  intro e; subst e; revert h; decide
theorem name_parts {n : List UInt8} (h : nameD n = true) : 1 ≤ n.length ∧ n.length ≤ 64 ∧ (∀ b ∈ n, signD b = true) := by
  unfold nameD at h
  simp only [Bool.and_eq_true, decide_eq_true_eq] at h
  exact ⟨h.1.1.1, h.1.1.2, List.all_eq_true.1 h.2⟩
theorem show_ok {e : E} (h : mayE e true = true) : ∀ b ∈ showE e, okT b = true := by
  obtain ⟨_, _, h3, h4⟩ := may_parts h
  intro b hb
  unfold showE at hb
  rcases List.mem_append.1 hb with hb | hb
  · rcases List.mem_append.1 hb with hb | hb
    · split at hb
      · rcases List.mem_append.1 hb with hb | hb
        · exact dig_okT (List.all_eq_true.1 (digits_all _) b hb)
        · have : b = 58 := by simpa using hb
          subst this; decide
      · cases hb
    · exact okB_okT ((word_ok h3).1 b hb)
  · split at hb
    · cases hb
    · rename_i hr
      rcases List.mem_cons.1 hb with rfl | hb
      · decide
      · rcases h4 with h4 | h4
        · exact absurd h4 hr
        · exact okB_okT ((word_ok h4).1 b hb)
theorem text_ok {o : Nat} (h : mayO o = true) : ∀ b ∈ textL o, okT b = true := by
  have : o = 0 ∨ o = 1 ∨ o = 2 ∨ o = 3 ∨ o = 4 ∨ o = 6 := by
    unfold mayO at h
    simp at h
    omega
  rcases this with rfl | rfl | rfl | rfl | rfl | rfl <;> decide
theorem words_ok {d : D} (h : mayD d = true) : ∀ x ∈ wordsD d, ∀ b ∈ x, okT b = true := by
  obtain ⟨n, o, e⟩ := d
  by_cases h0 : o = 0
  · subst h0
    rw [may_any, Bool.and_eq_true] at h
    intro x hx b hb
    have : x = n := by simpa [wordsD] using hx
    subst this
    exact sign_okT ((name_parts h.1).2.2 b hb)
  · rw [may_op h0] at h
    simp only [Bool.and_eq_true] at h
    obtain ⟨⟨h1, h3⟩, _, h4⟩ := h
    intro x hx b hb
    have e1 : wordsD ⟨n, o, e⟩ = [n, textL o, showE e] := by unfold wordsD; rw [if_neg h0]
    rw [e1] at hx
    simp only [List.mem_cons, List.not_mem_nil, or_false] at hx
    rcases hx with rfl | rfl | rfl
    · exact sign_okT ((name_parts h1).2.2 b hb)
    · exact text_ok h3 b hb
    · exact show_ok h4 b hb
theorem words_ne (d : D) : wordsD d ≠ [] := by
  unfold wordsD
  split <;> simp
theorem split_show {d : D} (h : mayD d = true) : splitD (showD d) = wordsD d :=
  split_join _ (words_ne d) (fun x hx b hb => okT_ne (words_ok h x hx b hb))
/-- Parse of Show. -/
theorem parse_showD {d : D} (h : mayD d = true) : parseD (showD d) = some d := by
  unfold parseD
  rw [split_show h, of_words h]
/-- Show of Parse. -/
theorem show_parseD {s : List UInt8} {d : D} (h : parseD s = some d) : mayD d = true ∧ showD d = s := by
  obtain ⟨h1, h2⟩ := words_of h
  refine ⟨h1, ?_⟩
  unfold showD
  rw [h2, join_split]
theorem join_mem : ∀ (ws : List (List UInt8)) (b : UInt8), b ∈ joinD ws → b = 32 ∨ ∃ x ∈ ws, b ∈ x
  | [], b, h => by cases h
  | [x], b, h => .inr ⟨x, by simp, h⟩
  | x :: y :: r, b, h => by
    have h : b ∈ x ++ 32 :: joinD (y :: r) := h
    rcases List.mem_append.1 h with h | h
    · exact .inr ⟨x, by simp, h⟩
    · rcases List.mem_cons.1 h with h | h
      · exact .inl h
      · rcases join_mem (y :: r) b h with h | ⟨z, hz, h⟩
        · exact .inl h
        · exact .inr ⟨z, by simp [hz], h⟩
/-- With a space more, or a sign that none has, a text is none. -/
theorem parse_more {d : D} (h : mayD d = true) (k : Nat) (c : UInt8) (hc : c = 32 ∨ okT c = false) : parseD ((showD d).take k ++ c :: (showD d).drop k) = none := by
  cases hp : parseD ((showD d).take k ++ c :: (showD d).drop k) with
  | none => rfl
  | some x =>
    exfalso
    obtain ⟨h1, h2⟩ := show_parseD hp
    by_cases h32 : c = 32
    · subst h32
      have c1 := split_count (showD d)
      have c2 := split_count (showD x)
      rw [split_show h] at c1
      rw [split_show h1] at c2
      have e : ((showD d).take k ++ 32 :: (showD d).drop k).count 32 = (showD d).count 32 + 1 := by
        rw [List.count_append, List.count_cons_self, ← Nat.add_assoc, ← List.count_append, List.take_append_drop]
      rw [← h2] at e
      have l1 : (wordsD d).length = 1 ∨ (wordsD d).length = 3 := by unfold wordsD; split <;> simp
      have l2 : (wordsD x).length = 1 ∨ (wordsD x).length = 3 := by unfold wordsD; split <;> simp
      omega
    · have hc : okT c = false := hc.resolve_left h32
      have hm : c ∈ showD x := by rw [h2]; simp
      rcases join_mem _ _ hm with e | ⟨z, hz, hb⟩
      · exact h32 e
      · rw [words_ok h1 z hz c hb] at hc
        cases hc
end Dep
end Go.Proofs.YtlpalepkomkngaaGreatDoor

namespace Go.Proofs.YtlpalepkomkngaaGreatDoor

/-- The bytes of n, k of them at most. -/
def numB : Nat → Nat → List UInt8
  | 0, _ => []
  | k + 1, n => if n < 128 then [UInt8.ofNat n] else UInt8.ofNat (n % 128 + 128) :: numB k (n / 128)

theorem numB_small (k n : Nat) (h : n < 128) : numB (k + 1) n = [UInt8.ofNat n] := by simp [numB, h]
theorem numB_big (k n : Nat) (h : ¬ n < 128) : numB (k + 1) n = UInt8.ofNat (n % 128 + 128) :: numB k (n / 128) := by simp [numB, h]

theorem numB_more : ∀ (k n : Nat), n < 128 ^ (k + 1) → numB (k + 2) n = numB (k + 1) n
  | 0, n, h => by
    have hs : n < 128 := by simpa using h
    rw [numB_small _ _ hs, numB_small _ _ hs]
  | k + 1, n, h => by
    by_cases hs : n < 128
    · rw [numB_small _ _ hs, numB_small _ _ hs]
    · rw [numB_big _ _ hs, numB_big _ _ hs, numB_more k (n / 128) (by rw [Nat.pow_succ] at h; exact Nat.div_lt_of_lt_mul (by omega))]

theorem numB_len_pos (k n : Nat) : 1 ≤ (numB (k + 1) n).length := by
  by_cases hs : n < 128
  · rw [numB_small _ _ hs]; simp
  · rw [numB_big _ _ hs]; simp
theorem numB_len_le : ∀ (k n : Nat), (numB k n).length ≤ k
  | 0, n => by simp [numB]
  | k + 1, n => by
    by_cases hs : n < 128
    · rw [numB_small _ _ hs]; simp
    · rw [numB_big _ _ hs]; have := numB_len_le k (n / 128); simp; omega

/-- The bytes of a number of the program's kind: nine at most. -/
def num (n : Nat) : List UInt8 := numB 9 n
/-- What the loops of the program carry: of n's bytes those that are left are m's, f + 1 of them at most. -/
def Left (n s f m : Nat) : Prop := (num n).length + 1 = s + (numB (f + 1) m).length ∧ m < 128 ^ (f + 1) ∧ s + f = 9
theorem left_start (n : Nat) (h : n ≤ 9223372036854775807) : Left n 1 8 n := ⟨by show _ + 1 = 1 + (numB 9 n).length; unfold num; omega, by omega, rfl⟩
theorem left_step {n s f m : Nat} (h : Left n s f m) (hm : 128 ≤ m) : ∃ g, f = g + 1 ∧ Left n (s + 1) g (m / 128) := by
  obtain ⟨h1, h2, h3⟩ := h
  cases f with
  | zero => simp at h2; omega
  | succ g =>
    refine ⟨g, rfl, ?_, ?_, by omega⟩
    · rw [numB_big _ _ (by omega)] at h1
      simp at h1; omega
    · rw [Nat.pow_succ] at h2
      exact Nat.div_lt_of_lt_mul (by omega)
theorem left_end {n s f m : Nat} (h : Left n s f m) (hm : m < 128) : (num n).length = s := by
  have h1 := h.1
  rw [numB_small _ _ hm] at h1
  simp at h1; omega
theorem left_s {n s f m : Nat} (h : Left n s f m) : s + f = 9 := h.2.2
/-- The same of the bytes: those that are done, and those of m, are n's. -/
def LeftB (n : Nat) (done : List UInt8) (f m : Nat) : Prop := done ++ numB (f + 1) m = num n ∧ m < 128 ^ (f + 1)
theorem leftB_start (n : Nat) (h : n ≤ 9223372036854775807) : LeftB n [] 8 n := ⟨rfl, by omega⟩
theorem leftB_step {n f m : Nat} {done : List UInt8} (h : LeftB n done f m) (hm : 128 ≤ m) : ∃ g, f = g + 1 ∧ LeftB n (done ++ [UInt8.ofNat (m % 128 + 128)]) g (m / 128) := by
  obtain ⟨h1, h2⟩ := h
  cases f with
  | zero => simp at h2; omega
  | succ g =>
    refine ⟨g, rfl, ?_, ?_⟩
    · rw [numB_big _ _ (by omega)] at h1
      rw [← h1]; simp
    · rw [Nat.pow_succ] at h2
      exact Nat.div_lt_of_lt_mul (by omega)
theorem leftB_end {n f m : Nat} {done : List UInt8} (h : LeftB n done f m) (hm : m < 128) : done ++ [UInt8.ofNat m] = num n := by
  rw [← h.1, numB_small _ _ hm]
theorem leftB_len {n f m : Nat} {done : List UInt8} (h : LeftB n done f m) : done.length + 1 ≤ (num n).length := by
  rw [← h.1, List.length_append]
  have := numB_len_pos f m
  omega
theorem num_len (n : Nat) : 1 ≤ (num n).length ∧ (num n).length ≤ 9 := ⟨numB_len_pos 8 n, numB_len_le 9 n⟩

/-- What the chapter says of a number, or a text, written: the error, and what is then there. -/
def numE (bs : List UInt8) (n : Int) : Int := if n < 0 then 1 else if bs.length + (num n.toNat).length ≤ 4194304 then 0 else 40
def numS (bs : List UInt8) (n : Int) : List UInt8 := if n < 0 then bs else if bs.length + (num n.toNat).length ≤ 4194304 then bs ++ num n.toNat else bs
def textB (s : ByteArray) : List UInt8 := num s.size ++ s.data.toList
def textE (bs : List UInt8) (s : ByteArray) : Int := if bs.length + (textB s).length ≤ 4194304 then 0 else 40
def textS (bs : List UInt8) (s : ByteArray) : List UInt8 := if bs.length + (textB s).length ≤ 4194304 then bs ++ textB s else bs
theorem textB_len (s : ByteArray) : (textB s).length = (num s.size).length + s.size := by simp [textB]
end Go.Proofs.YtlpalepkomkngaaGreatDoor
