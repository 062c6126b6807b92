/-
  Plain facts on the parts of a version, and how versions compare (chapter 2): nothing of the program is named here. Plain facts on EVRs (chapter 3): which may be, their texts, the EVR of a text. Nothing of the program is named here. Plain facts for the laws of layer 3: EVRs in a row. Nothing of the program is named here. Plain facts on ranges of versions (chapter 4): an Op's bits, an EVR in a range, two ranges that meet. Nothing of the program is named here. Plain facts on plain dependencies (chapter 6): which names may be, a dependency's words, its text, and back. Nothing of the program is named here. Plain facts on the bytes of a number (seven bits each, the lowest first): nothing of the program is named here. Conditions: none. The words of a text, as lists of bytes; joined words; where words lie. No program is named here. Plain facts on rich dependencies (chapter 8): which are whole, their words, what is read of words. Nothing of the program is named here. Plain facts on memory: a block that is known whole; what a call leaves alone; a list of bytes as cells. Nothing of the program is named here. A text's bytes, a cut of a text, a cell of a row. Nothing of the program is named here but its types. Slices of strings. Nothing of the program is named here but its types. Rich dependencies in memory: what a value reads as. Nothing of the program is named here but its types. Plain facts on EVRs as the program has them. Nothing of the program is named here. Packages in memory: what a value reads as. Nothing of the program is named here but its types. The walks over the laws' own measure of layer 8: whether a rich dependency is more than a statement goes over. Conditions: as each theorem states.
-/
import Derived.WalkKit
import Derived.Lib.SplitLaws
import Derived.Lib.Join
import Derived.Lib.AppendStr
import Derived.Laws.NewBlocks
import Derived.Deep.Draws
import Derived.Maps.AppendAt
import Derived.Lib.BufferRead
import Derived.Handy
import Derived.Lib.Hide
import Derived.Test.YtpdoeapjdifmbaaGreatDoorRows
import Derived.LoopN
import Derived.Deep.QuietTactic
namespace Go.Proofs.YtpdoeapjdifmbaaGreatDoor
namespace Ver

/-- Of which Kind a byte is; 0: none. -/
def kindB (b : UInt8) : Nat :=
  if b.toNat = 126 then 1 else if b.toNat = 94 then 3 else if (97 ≤ b.toNat ∧ b.toNat ≤ 122) ∨ (65 ≤ b.toNat ∧ b.toNat ≤ 90) then 4 else if 48 ≤ b.toNat ∧ b.toNat ≤ 57 then 5 else 0

/-- Does a text begin by a byte of that Kind? -/
def headK (k : Nat) : List UInt8 → Bool
  | [] => false
  | b :: _ => kindB b == k

/-- The parts, numbers with their zeros. -/
def raw : List UInt8 → List (Nat × List UInt8)
  | [] => []
  | b :: l =>
    if kindB b = 0 then raw l
    else if kindB b < 4 then (kindB b, []) :: raw l
    else if headK (kindB b) l = true then
      match raw l with
      | [] => [(kindB b, [b])]
      | (_, t) :: r => (kindB b, b :: t) :: r
    else (kindB b, [b]) :: raw l

/-- The byte that ends a text. -/
def lastK (k : Nat) (l : List UInt8) : Bool := headK k l.reverse

abbrev Pt := Nat × List UInt8
/-- A number's zeros ahead count for nothing. -/
def norm (p : Pt) : Pt := (p.1, if p.1 = 5 then p.2.dropWhile (fun b => b.toNat == 48) else p.2)
def parts (l : List UInt8) : List Pt := (raw l).map norm
/-- Is a part less than another? -/
def below (a b : Pt) : Bool :=
  if a.1 ≠ b.1 then decide (a.1 < b.1) else if a.1 = 5 ∧ a.2.length ≠ b.2.length then decide (a.2.length < b.2.length) else Op.bytesLess a.2 b.2

theorem bl_irrefl : ∀ x : List UInt8, Op.bytesLess x x = false
  | [] => rfl
  | a :: x => by
    rw [Op.bytesLess, bl_irrefl x]
    simp
theorem u8_lt (a b : UInt8) : (a < b) ↔ a.toNat < b.toNat := UInt8.lt_iff_toNat_lt
theorem bl_cons (a b : UInt8) (x y : List UInt8) : Op.bytesLess (a :: x) (b :: y) = true ↔ a.toNat < b.toNat ∨ (a = b ∧ Op.bytesLess x y = true) := by
  rw [Op.bytesLess]
  simp [u8_lt]
theorem bl_trans : ∀ x y z : List UInt8, Op.bytesLess x y = true → Op.bytesLess y z = true → Op.bytesLess x z = true
  | _, [], _, h, _ => by cases ‹List UInt8› <;> simp [Op.bytesLess] at h
  | _, _ :: _, [], _, h => by simp [Op.bytesLess] at h
  | [], _ :: _, _ :: _, _, _ => rfl
  | a :: x, b :: y, c :: z, h1, h2 => by
    rw [bl_cons] at h1 h2 ⊢
    rcases h1 with h1 | ⟨h1, h3⟩
    · rcases h2 with h2 | ⟨h2, _⟩
      · left; omega
      · left; rw [← h2]; exact h1
    · rcases h2 with h2 | ⟨h2, h4⟩
      · left; rw [h1]; exact h2
      · right; exact ⟨h1.trans h2, bl_trans x y z h3 h4⟩
theorem bl_total : ∀ x y : List UInt8, Op.bytesLess x y = false → Op.bytesLess y x = false → x = y
  | [], [], _, _ => rfl
  | [], _ :: _, h, _ => by simp [Op.bytesLess] at h
  | _ :: _, [], _, h => by simp [Op.bytesLess] at h
  | a :: x, b :: y, h1, h2 => by
    have n1 : ¬ (a.toNat < b.toNat ∨ (a = b ∧ Op.bytesLess x y = true)) := by rw [← bl_cons, h1]; simp
    have n2 : ¬ (b.toNat < a.toNat ∨ (b = a ∧ Op.bytesLess y x = true)) := by rw [← bl_cons, h2]; simp
    have hab : a = b := UInt8.toNat_inj.1 (by omega)
    subst hab
    have m1 : Op.bytesLess x y = false := by
      cases hh : Op.bytesLess x y with
      | false => rfl
      | true => exact absurd (.inr ⟨rfl, hh⟩) n1
    have m2 : Op.bytesLess y x = false := by
      cases hh : Op.bytesLess y x with
      | false => rfl
      | true => exact absurd (.inr ⟨rfl, hh⟩) n2
    rw [bl_total x y m1 m2]

/-- No part has the end's Kind. -/
def Whole (x : List Pt) : Prop := ∀ p ∈ x, p.1 = 1 ∨ p.1 = 3 ∨ p.1 = 4 ∨ p.1 = 5
/-- The run of that Kind at i. -/
def run (k : Nat) (l : List UInt8) (i : Nat) : List UInt8 := (l.drop i).takeWhile (fun b => kindB b == k)
def zeros (m : List UInt8) : Nat := (m.takeWhile (fun b => b.toNat == 48)).length
end Ver
end Go.Proofs.YtpdoeapjdifmbaaGreatDoor

namespace Go.Proofs.YtpdoeapjdifmbaaGreatDoor
namespace Evr
open Ver

def okB (b : UInt8) : Bool := decide (97 ≤ b.toNat ∧ b.toNat ≤ 122) || decide (65 ≤ b.toNat ∧ b.toNat ≤ 90) || decide (48 ≤ b.toNat ∧ b.toNat ≤ 57) || decide (b.toNat = 46) || decide (b.toNat = 95) || decide (b.toNat = 43) || decide (b.toNat = 126) || decide (b.toNat = 94)
def wordE (s : List UInt8) : Bool := s.all okB && decide (1 ≤ s.length) && decide (s.length ≤ 64)
structure E where
  epoch : Int
  ver : List UInt8
  rel : List UInt8
def mayE (e : E) (dep : Bool) : Bool := decide (0 ≤ e.epoch) && decide (e.epoch ≤ 2147483647) && wordE e.ver && (if e.rel = [] then dep else wordE e.rel)
def dig (n : Nat) : UInt8 := UInt8.ofNat (48 + n % 10)
def digits (n : Nat) : List UInt8 := if _h : n < 10 then [dig n] else digits (n / 10) ++ [dig n]
  termination_by n
  decreasing_by omega
def val (a : List UInt8) : Nat := a.foldl (fun n b => n * 10 + (b.toNat - 48)) 0
def showE (e : E) : List UInt8 := (if 0 < e.epoch then digits e.epoch.toNat ++ [58] else []) ++ e.ver ++ (if e.rel = [] then [] else 45 :: e.rel)
/-- A text ahead of the first such byte, and behind it. -/
def cut (c : UInt8) : List UInt8 → List UInt8 × List UInt8 × Bool
  | [] => ([], [], false)
  | b :: l => if b = c then ([], l, true) else let (x, y, z) := cut c l; (b :: x, y, z)
def isDig (b : UInt8) : Bool := decide (48 ≤ b.toNat) && decide (b.toNat ≤ 57)
def numOk (a : List UInt8) : Bool := decide (1 ≤ a.length) && decide (a.length ≤ 10) && !(a.head? == some 48) && a.all isDig
def parseR (n : Nat) (rest : List UInt8) : Option E :=
  let c := cut 45 rest
  if (c.2.2 = true ∧ c.2.1 = []) ∨ mayE ⟨n, c.1, c.2.1⟩ true = false then none else some ⟨n, c.1, c.2.1⟩
def parseE (s : List UInt8) : Option E :=
  if 200 < s.length then none else
  let c := cut 58 s
  if c.2.2 = true then (if numOk c.1 = true then parseR (val c.1) c.2.1 else none) else parseR 0 c.1

end Evr
end Go.Proofs.YtpdoeapjdifmbaaGreatDoor

namespace Go.Proofs.YtpdoeapjdifmbaaGreatDoor
namespace Evr
open Ver

end Evr
end Go.Proofs.YtpdoeapjdifmbaaGreatDoor

namespace Go.Proofs.YtpdoeapjdifmbaaGreatDoor
namespace Span
open Go.RowKit

/-- Whether an Op is valid; its text. -/
def mayO (o : Nat) : Bool := o == 0 || o == 1 || o == 2 || o == 3 || o == 4 || o == 6
def textO (o : Nat) : ByteArray := match o with | 1 => ⟨#[60]⟩ | 2 => ⟨#[61]⟩ | 3 => ⟨#[60, 61]⟩ | 4 => ⟨#[62]⟩ | 6 => ⟨#[62, 61]⟩ | _ => ⟨#[]⟩
def parseL (l : List UInt8) : Nat × Bool :=
  if l = [] then (0, true) else if l = [60] then (1, true) else if l = [61] then (2, true) else if l = [60, 61] then (3, true) else if l = [62] then (4, true) else if l = [62, 61] then (6, true) else (0, false)
theorem three {c : Int} (h : -1 ≤ c ∧ c ≤ 1) : c = -1 ∨ c = 0 ∨ c = 1 := by omega
end Span
end Go.Proofs.YtpdoeapjdifmbaaGreatDoor

namespace Go.Proofs.YtpdoeapjdifmbaaGreatDoor
namespace Dep
open Ver Evr Span

def signD (b : UInt8) : Bool := okB b || decide (b.toNat = 45) || decide (b.toNat = 47) || decide (b.toNat = 58) || decide (b.toNat = 64)
def noNames : List (List UInt8) := [[97, 110, 100], [111, 114], [105, 102], [101, 108, 115, 101], [117, 110, 108, 101, 115, 115], [119, 105, 116, 104], [119, 105, 116, 104, 111, 117, 116]]
def nameD (s : List UInt8) : Bool := decide (1 ≤ s.length) && decide (s.length ≤ 64) && !noNames.contains s && s.all signD
def fileD (s : List UInt8) : Bool := nameD s && s.head? == some 47
structure D where
  name : List UInt8
  op : Nat
  evr : E
def zeroD : E := ⟨0, [], []⟩
def noE (e : E) : Bool := decide (e.epoch = 0) && decide (e.ver = []) && decide (e.rel = [])
def mayD (d : D) : Bool := nameD d.name && mayO d.op && (if d.op = 0 then noE d.evr else !fileD d.name && mayE d.evr true)
def textL (o : Nat) : List UInt8 := (textO o).data.toList
def wordsD (d : D) : List (List UInt8) := if d.op = 0 then [d.name] else [d.name, textL d.op, showE d.evr]
def threeD (n o v : List UInt8) : Option D := match parseE v with
  | some e => if (parseL o).2 = true ∧ mayD ⟨n, (parseL o).1, e⟩ = true then some ⟨n, (parseL o).1, e⟩ else none
  | none => none
def ofD : List (List UInt8) → Option D
  | [n] => if nameD n = true then some ⟨n, 0, zeroD⟩ else none
  | [n, o, v] => threeD n o v
  | _ => none
theorem may_any {n : List UInt8} {e : E} : mayD ⟨n, 0, e⟩ = (nameD n && noE e) := by
  unfold mayD
  simp [mayO]
theorem may_op {n : List UInt8} {o : Nat} {e : E} (h : o ≠ 0) : mayD ⟨n, o, e⟩ = (nameD n && mayO o && (!fileD n && mayE e true)) := by
  unfold mayD
  simp [h]
/-- A byte that may stand in a dependency's text. -/
def okT (b : UInt8) : Bool := signD b || decide (b.toNat = 60) || decide (b.toNat = 61) || decide (b.toNat = 62)
theorem sign_okT {b : UInt8} (h : signD b = true) : okT b = true := by unfold okT; simp [h]
theorem name_parts {n : List UInt8} (h : nameD n = true) : 1 ≤ n.length ∧ n.length ≤ 64 ∧ (∀ b ∈ n, signD b = true) := by
  unfold nameD at h
  simp only [Bool.and_eq_true, decide_eq_true_eq] at h
  exact ⟨h.1.1.1, h.1.1.2, List.all_eq_true.1 h.2⟩
end Dep
end Go.Proofs.YtpdoeapjdifmbaaGreatDoor

namespace Go.Proofs.YtpdoeapjdifmbaaGreatDoor

end Go.Proofs.YtpdoeapjdifmbaaGreatDoor

namespace Go.Proofs.YtpdoeapjdifmbaaGreatDoor
namespace Lex

/-- 0 a space, 1 a bracket, 2 another byte that may be, 3 one that may not. -/
def kind (b : UInt8) : Nat := if b.toNat = 32 then 0 else if b.toNat = 40 ∨ b.toNat = 41 then 1 else if 33 ≤ b.toNat ∧ b.toNat ≤ 126 then 2 else 3
/-- A word and its place. -/
abbrev Wd := List UInt8 × Nat
/-- The words of what is left, with a word that stands open. -/
def cont : Option Wd → Nat → List UInt8 → List Wd
  | o, _, [] => o.toList
  | o, p, b :: l =>
    if kind b = 0 then o.toList ++ cont none (p + 1) l
    else if kind b = 1 then o.toList ++ ([b], p) :: cont none (p + 1) l
    else match o with
      | some (t, q) => cont (some (t ++ [b], q)) (p + 1) l
      | none => cont (some ([b], p)) (p + 1) l
def words (s : List UInt8) : List Wd := cont none 0 s
/-- The place of the first byte that may not be. -/
def bad : List UInt8 → Option Nat
  | [] => none
  | b :: l => if kind b = 3 then some 0 else (bad l).map (· + 1)
/-- What Words answers: the words, the place, the number of the error. -/
def answer (s : List UInt8) : List Wd × Nat × Int :=
  if 4096 < s.length then ([], 0, 40) else match bad s with
    | some i => ([], i, 4)
    | none => (words s, 0, 0)
def sep : Option (List UInt8) → List UInt8 → List UInt8
  | none, _ => []
  | some y, x => if x = [41] ∨ y = [40] then [] else [32]
def placed : Option (List UInt8) → Nat → List (List UInt8) → List Wd
  | _, _, [] => []
  | y, p, x :: l => (x, p + (sep y x).length) :: placed (some x) (p + (sep y x).length + x.length) l
/-- May this be a word? -/
def plain (x : List UInt8) : Bool := decide (x = [40]) || decide (x = [41]) || (decide (x ≠ []) && x.all fun b => decide (kind b = 2))
def bracket (x : List UInt8) : Prop := x = [40] ∨ x = [41]

def k2 (b : UInt8) : Bool := decide (kind b = 2)
end Lex
end Go.Proofs.YtpdoeapjdifmbaaGreatDoor

namespace Go.Proofs.YtpdoeapjdifmbaaGreatDoor
namespace Rich
open Ver Evr Span Dep Lex

inductive R where
  | mk : Nat → D → List R → R
def R.kind : R → Nat | .mk k _ _ => k
def R.dep : R → D | .mk _ d _ => d
def R.args : R → List R | .mk _ _ l => l
def zD : D := ⟨[], 0, zeroD⟩
def noD (d : D) : Bool := decide (d.name = []) && decide (d.op = 0) && noE d.evr
/-- How many parts each Kind has. -/
def okN (k n : Nat) : Bool := if k = 2 ∨ k = 3 ∨ k = 6 then decide (2 ≤ n) else if k = 4 ∨ k = 5 then decide (n = 2 ∨ n = 3) else if k = 7 then decide (n = 2) else false
mutual
def part : R → Bool
  | .mk k d l => if k = 1 then mayD d && l.isEmpty else okN k l.length && allP l && noD d
def allP : List R → Bool
  | [] => true
  | x :: l => part x && allP l
end
mutual
def count : R → Nat
  | .mk _ _ l => 1 + counts l
def counts : List R → Nat
  | [] => 0
  | x :: l => count x + counts l
end
mutual
def deep : R → Nat
  | .mk k _ l => if k = 1 then 0 else deeps l + 1
def deeps : List R → Nat
  | [] => 0
  | x :: l => max (deep x) (deeps l)
end
def whole (x : R) : Bool := part x && decide (count x ≤ 24) && decide (deep x ≤ 8)
def wordK (k : Nat) : List UInt8 := match k with
  | 2 => [97, 110, 100]
  | 3 => [111, 114]
  | 4 => [105, 102]
  | 5 => [117, 110, 108, 101, 115, 115]
  | 6 => [119, 105, 116, 104]
  | 7 => [119, 105, 116, 104, 111, 117, 116]
  | _ => []
def wElse : List UInt8 := [101, 108, 115, 101]
/-- The word ahead of part i. -/
def sepW (k i : Nat) : List UInt8 := if i = 2 ∧ (k = 4 ∨ k = 5) then wElse else wordK k
def sepL (k i : Nat) : List (List UInt8) := if i = 0 then [] else [sepW k i]
mutual
def wordsR : R → List (List UInt8)
  | .mk k d l => if k = 1 then wordsD d else [40] :: (wordsL k 0 l ++ [[41]])
def wordsL (k : Nat) : Nat → List R → List (List UInt8)
  | _, [] => []
  | i, x :: l => sepL k i ++ (wordsR x ++ wordsL k (i + 1) l)
end
/-! What is read. -/
def kindW (w : List UInt8) : Nat := if w = wordK 2 then 2 else if w = wordK 3 then 3 else if w = wordK 4 then 4 else if w = wordK 5 then 5 else if w = wordK 6 then 6 else if w = wordK 7 then 7 else 0
def placeW (e : Nat) : List Wd → Nat
  | [] => e
  | (_, a) :: _ => a
def textW : List Wd → List UInt8
  | [] => []
  | (t, _) :: _ => t
abbrev Res := Except (Nat × Int) (R × Nat × List Wd)
def finF (ws : List (List UInt8)) (p n : Nat) (rest : List Wd) : Res := match ofD ws with
  | some d => .ok (.mk 1 d [], n, rest)
  | none => .error (p, 4)
/-- Is this word the text of an Op that is not Any? -/
def isOp (w : List UInt8) : Bool := (parseL w).2 && decide ((parseL w).1 ≠ 0)
def atomF (w : List UInt8) (p n : Nat) (rest : List Wd) : Res :=
  if isOp (textW rest) = true then match rest.tail with
    | [] => finF [w, textW rest] p n []
    | (v, _) :: r2 => finF [w, textW rest, v] p n r2
  else finF [w] p n rest
def moreW (k len : Nat) (w : List UInt8) : Bool := (decide (w = wordK k) && decide (k = 2 ∨ k = 3 ∨ k = 6)) || (decide (w = wElse) && decide (len = 2) && decide (k = 4 ∨ k = 5))
mutual
def readF (e : Nat) : Nat → Nat → Nat → List Wd → Res
  | 0, _, _, _ => .error (e, 4)
  | _ + 1, _, _, [] => .error (e, 4)
  | f + 1, o, n, (w, p) :: rest =>
    if w = [] ∨ w = [41] then .error (p, 4)
    else if w = [40] ∧ o = 8 then .error (p, 21)
    else if 24 < n + 1 then .error (p, 40)
    else if w ≠ [40] then atomF w p (n + 1) rest
    else match readF e f (o + 1) (n + 1) rest with
      | .error x => .error x
      | .ok (a, n2, ws2) => if kindW (textW ws2) = 0 then .error (placeW e ws2, 4) else moreF e f (o + 1) (kindW (textW ws2)) [a] n2 ws2
def moreF (e : Nat) : Nat → Nat → Nat → List R → Nat → List Wd → Res
  | 0, _, _, _, _, _ => .error (e, 4)
  | f + 1, o, k, l, n, ws => match readF e f o n ws.tail with
    | .error x => .error x
    | .ok (b, n2, ws2) =>
      if textW ws2 = [41] then .ok (.mk k zD (l ++ [b]), n2, ws2.tail)
      else if moreW k (l.length + 1) (textW ws2) = true then moreF e f o k (l ++ [b]) n2 ws2
      else .error (placeW e ws2, 4)
end
/-! Words. -/
theorem okT_two {b : UInt8} (h : okT b = true) : kind b = 2 := by
  have key : ∀ n : Nat, n < 256 → okT (UInt8.ofNat n) = true → kind (UInt8.ofNat n) = 2 := by decide +kernel
  have := key b.toNat (UInt8.toNat_lt b) (by rw [UInt8.ofNat_toNat]; exact h)
  rwa [UInt8.ofNat_toNat] at this
theorem plain_of {x : List UInt8} (h0 : x ≠ []) (h : ∀ b ∈ x, okT b = true) : plain x = true := by
  unfold plain
  simp only [Bool.or_eq_true, Bool.and_eq_true, decide_eq_true_eq, List.all_eq_true]
  exact .inr ⟨h0, fun b hb => okT_two (h b hb)⟩
theorem name_word {n : List UInt8} (h : nameD n = true) : n ≠ [] ∧ n ≠ [40] ∧ n ≠ [41] ∧ plain n = true := by
  obtain ⟨h1, _, h3⟩ := name_parts h
  have h0 : n ≠ [] := fun e => by rw [e] at h1; simp at h1
  refine ⟨h0, ?_, ?_, plain_of h0 (fun b hb => sign_okT (h3 b hb))⟩
  · rintro rfl; have := h3 40 (by simp); revert this; decide
  · rintro rfl; have := h3 41 (by simp); revert this; decide
theorem wordsD_any {d : D} (h : d.op = 0) : wordsD d = [d.name] := by unfold wordsD; rw [if_pos h]
theorem wordsD_op {d : D} (h : d.op ≠ 0) : wordsD d = [d.name, textL d.op, showE d.evr] := by unfold wordsD; rw [if_neg h]
theorem may_name {d : D} (h : mayD d = true) : nameD d.name = true := by
  obtain ⟨n, o, e⟩ := d
  by_cases h0 : o = 0
  · subst h0; rw [may_any, Bool.and_eq_true] at h; exact h.1
  · rw [may_op h0] at h; simp only [Bool.and_eq_true] at h; exact h.1.1
end Rich
end Go.Proofs.YtpdoeapjdifmbaaGreatDoor

namespace Go.Proofs.YtpdoeapjdifmbaaGreatDoor
open Go.RowKit

/-- Block g holds just these cells, of element type t, none of them frozen. -/
def Box (w : World) (g : Nat) (t : TypeId) (cs : Array Value) : Prop := w.heap[g]? = some (.cells cs t (0, 0))

section
variable {w w' : World} {g g' : Nat} {t t' : TypeId} {cs cs' : Array Value}
theorem Box.lt (h : Box w g t cs) : g < w.heap.size := by
  by_cases hlt : g < w.heap.size
  · exact hlt
  · exfalso
    have hn : w.heap[g]? = none := Array.getElem?_eq_none (by omega)
    unfold Box at h
    rw [hn] at h
    cases h
theorem Box.cell (h : Box w g t cs) (i : Nat) : w.cell? ⟨g, i, none⟩ = cs[i]? := cell_of_row w g i cs t (0, 0) h
theorem Box.free (h : Box w g t cs) (i : Nat) : w.frozen? ⟨g, i, none⟩ = false := by unfold Box at h; simp [World.frozen?, h]
theorem Box.made (w : World) (t : TypeId) (cs : Array Value) : Box (w.alloc (.cells cs t)) w.heap.size t cs := heap_alloc_new w _
theorem Box.after_alloc (h : Box w g t cs) (o : Obj) : Box (w.alloc o) g t cs := (Below.heap_alloc w o g h.lt).trans h
theorem Box.stored (h : Box w g t cs) (i : Nat) (u : Value) : Box (w.setCell ⟨g, i, none⟩ u) g t (cs.setIfInBounds i u) := by
  unfold Box at h ⊢
  simp [World.setCell, Array.getElem?_modify, h]
theorem Box.apart (h : Box w g t cs) (h' : Box w g' t' cs') (hne : t ≠ t') : g ≠ g' := by
  intro e
  subst e
  have e2 : some (Obj.cells cs t (0, 0)) = some (Obj.cells cs' t' (0, 0)) := h.symm.trans h'
  injection e2 with e2
  injection e2 with _ e3
  exact hne e3
theorem Box.of_own_ne {base size n : Nat} {e : TypeId} {v : Value} {xs : List Value} (hg : Box w g t cs) (h : w.ownsRow base e size v n xs) (hne : e ≠ t) : ∀ i, v.ownBlock = some i → i ≠ g := by
  intro i hi
  rcases h.2 with ⟨hv, _⟩ | ⟨b, cap, cur, hv, _, hh, _⟩
  · subst hv; simp [Value.ownBlock] at hi
  · subst hv
    have hb : b = i := by simpa [Value.ownBlock] using hi
    subst hb
    exact Box.apart (t := e) hh hg hne
end

theorem own_form {w : World} {base size n : Nat} {e : TypeId} {v : Value} {xs : List Value} (h : w.ownsRow base e size v n xs) : ∃ a c, v = .slice a n c := by
  rcases h.2 with ⟨hv, hn⟩ | ⟨b, cap, cur, hv, _⟩
  · subst hn; exact ⟨none, 0, hv⟩
  · exact ⟨_, _, hv⟩

/-- Of the blocks that were there only those of S may have turned. -/
structure Kept (S : Nat → Prop) (w w' : World) : Prop where
  os : w'.os = w.os
  tape : w'.tape = w.tape
  output : w'.output = w.output
  size : w.heap.size ≤ w'.heap.size
  block : ∀ i, i < w.heap.size → ¬ S i → w'.heap[i]? = w.heap[i]?

section
variable {S T : Nat → Prop} {a w w' : World}
theorem Kept.refl (S : Nat → Prop) (w : World) : Kept S w w := ⟨rfl, rfl, rfl, Nat.le_refl _, fun _ _ _ => rfl⟩
theorem Kept.trans (h : Kept S a w) (k : Kept T w w') (hT : ∀ i, i < a.heap.size → T i → S i) : Kept S a w' :=
  ⟨k.os.trans h.os, k.tape.trans h.tape, k.output.trans h.output, Nat.le_trans h.size k.size,
    fun i hi hS => (k.block i (Nat.lt_of_lt_of_le hi h.size) (fun ht => hS (hT i hi ht))).trans (h.block i hi hS)⟩
theorem Kept.weaker (h : Kept S w w') (hT : ∀ i, i < w.heap.size → S i → T i) : Kept T w w' :=
  ⟨h.os, h.tape, h.output, h.size, fun i hi hS => h.block i hi (fun hs => hS (hT i hi hs))⟩
theorem Kept.alloc (h : Kept S a w) (o : Obj) : Kept S a (w.alloc o) :=
  ⟨h.os, h.tape, h.output, Nat.le_trans h.size (by simp), fun i hi hS => (Below.heap_alloc w o i (Nat.lt_of_lt_of_le hi h.size)).trans (h.block i hi hS)⟩
theorem Kept.drew (h : Kept S a w) : Kept S a w.drew := ⟨h.os, h.tape, h.output, h.size, h.block⟩
theorem Kept.drewN (h : Kept S a w) (n : Nat) : Kept S a (w.drewN n) := ⟨h.os, h.tape, h.output, h.size, h.block⟩
theorem Kept.setCell (h : Kept S a w) {p : Addr} (hp : S p.block ∨ a.heap.size ≤ p.block) (u : Value) : Kept S a (w.setCell p u) :=
  ⟨h.os, h.tape, h.output, by simpa [World.setCell] using h.size, fun i hi hS => (Below.heap_setCell w p u i (by
    intro e
    subst e
    rcases hp with hp | hp
    · exact hS hp
    · omega)).trans (h.block i hi hS)⟩
theorem Kept.grown {row : Option Nat} (h : Kept S a w) (hg : w.grownBy w' row) (hr : ∀ i, row = some i → S i ∨ a.heap.size ≤ i) : Kept S a w' :=
  ⟨hg.os.trans h.os, hg.tape.trans h.tape, hg.output.trans h.output, Nat.le_trans h.size hg.size,
    fun i hi hS => (hg.block i (Nat.lt_of_lt_of_le hi h.size) (fun e => by
      rcases hr i e.symm with hr | hr
      · exact hS hr
      · omega)).trans (h.block i hi hS)⟩
theorem Kept.of_below {B : Nat} (h : Below B w w') (hS : ∀ i, i < w.heap.size → B ≤ i → S i) : Kept S w w' :=
  ⟨h.os, h.tape, h.output, h.size, fun i hi hs => h.block i (by
    by_cases hb : i < B
    · exact hb
    · exact absurd (hS i hi (by omega)) hs)⟩
theorem Kept.below {B : Nat} (h : Kept S w w') (hB : B ≤ w.heap.size) (hS : ∀ i, S i → B ≤ i) : Below B w w' :=
  ⟨h.os, h.tape, h.output, h.size, fun i hi => h.block i (by omega) (fun hs => by have := hS i hs; omega)⟩
theorem Kept.box {g : Nat} {t : TypeId} {cs : Array Value} (h : Kept S w w') (hb : Box w g t cs) (hg : ¬ S g) : Box w' g t cs := (h.block g hb.lt hg).trans hb
theorem Kept.cell (h : Kept S w w') {p : Addr} (hp : p.block < w.heap.size) (hg : ¬ S p.block) : w'.cell? p = w.cell? p := World.cell?_of_block (h.block p.block hp hg)
end

theorem Kept.owns {S : Nat → Prop} {w w' : World} (h : Kept S w w') {base size n : Nat} {e : TypeId} {v : Value} {xs : List Value} (ho : w.ownsRow base e size v n xs) (hS : ∀ i, v.ownBlock = some i → ¬ S i) : w'.ownsRow base e size v n xs := by
  have hlt := ho.lt
  obtain ⟨h1, h2⟩ := ho
  refine ⟨h1, ?_⟩
  rcases h2 with h2 | ⟨b, cap, cur, e3, e4, e5, e6⟩
  · exact .inl h2
  · have hb : v.ownBlock = some b := by rw [e3]; rfl
    exact .inr ⟨b, cap, cur, e3, e4, (h.block b (hlt b hb).2 (hS b hb)).trans e5, e6⟩

section
variable {P : Program} (w : World)
end

end Go.Proofs.YtpdoeapjdifmbaaGreatDoor

namespace Go.Proofs.YtpdoeapjdifmbaaGreatDoor
open Go.RowKit

theorem char_at {s : ByteArray} {k : Nat} {b : UInt8} (h : k < s.size) (hb : b = s[k]) : s.data.toList[k]? = some b := by
  rw [hb, List.getElem?_eq_getElem (by simpa using h)]
  rfl
theorem own_cell {w : World} {base n size : Nat} {e : TypeId} {g c : Nat} {xs : List Value} (h : w.ownsRow base e size (.slice (some ⟨g, 0, none⟩) n c) n xs) {j : Nat} {u : Value} (hj : xs[j]? = some u) : w.cell? ⟨g, j, none⟩ = some u ∧ g < w.heap.size := by
  obtain ⟨hl, h | ⟨g', cap, cur, e1, e2, e3, e4, e5, e6, e7⟩⟩ := h
  · exact absurd h.1 (by simp)
  · injection e1 with e1 _ _
    injection e1 with e1
    injection e1 with e1
    subst e1
    refine ⟨?_, (show Box w g e cur from e3).lt⟩
    rw [cell_of_row w g j cur e (0, 0) e3, ← Array.getElem?_toList]
    rw [← e7, List.getElem?_take] at hj
    split at hj
    · exact hj
    · simp at hj
end Go.Proofs.YtpdoeapjdifmbaaGreatDoor

namespace Go.Proofs.YtpdoeapjdifmbaaGreatDoor
open Go.RowKit

theorem add_block (a : Addr) (i : Nat) : (a.add i).block = a.block := by unfold Addr.add; split <;> rfl
/-- A slice of strings that reads as xs. -/
def StrS (w : World) (v : Value) (xs : List ByteArray) : Prop := ∃ ao cp, v = .slice ao xs.length cp ∧ ∀ j u, xs[j]? = some u → ∃ a : Addr, ao = some a ∧ w.cell? (a.add j) = some (.string u) ∧ a.block < w.heap.size
theorem StrS.kept {w w' : World} {v : Value} {xs : List ByteArray} (h : StrS w v xs) {S : Nat → Prop} (hk : Kept S w w') (hS : ∀ (a : Addr) n cp, v = .slice (some a) n cp → ¬ S a.block) : StrS w' v xs := by
  obtain ⟨ao, cp, hv, hc⟩ := h
  refine ⟨ao, cp, hv, fun j u hj => ?_⟩
  obtain ⟨a, ha, h1, h2⟩ := hc j u hj
  subst ha
  exact ⟨a, rfl, by rw [hk.cell (p := a.add j) (by rw [add_block]; exact h2) (by rw [add_block]; exact hS a _ _ hv)]; exact h1, Nat.lt_of_lt_of_le h2 hk.size⟩
def cellsS (l : List ByteArray) : List Value := l.map Value.string
theorem own_strs {w : World} {base : Nat} {e : TypeId} {v : Value} {l : List ByteArray} (h : w.ownsRow base e 1 v l.length (cellsS l)) : StrS w v l := by
  obtain ⟨a, cp, rfl⟩ := own_form h
  refine ⟨a, cp, rfl, fun j u hj => ?_⟩
  have hj' : (cellsS l)[j]? = some (.string u) := by simp [cellsS, hj]
  have hlt : j < l.length := (List.getElem?_eq_some_iff.1 hj).1
  rcases h.2 with ⟨_, h0⟩ | ⟨g, cap, cur, e1, _⟩
  · omega
  · injection e1 with e1 e2 e3
    subst e1
    have := own_cell h hj'
    refine ⟨_, rfl, ?_, this.2⟩
    have e : (⟨g, 0, none⟩ : Addr).add j = ⟨g, j, none⟩ := by
      unfold Addr.add
      cases j <;> simp
    rw [e]; exact this.1

/-- A slice of strings in new memory (or with nothing in it). -/
def NewS (base : Nat) (w : World) (v : Value) (xs : List ByteArray) : Prop := (xs = [] ∧ ∃ a c, v = .slice a 0 c) ∨ w.ownsRow base 9 1 v xs.length (cellsS xs)
section
variable {base : Nat} {w w' : World} {v : Value} {xs : List ByteArray}
theorem NewS.strs (h : NewS base w v xs) : StrS w v xs := by
  rcases h with ⟨rfl, a, c, rfl⟩ | h
  · exact ⟨a, c, rfl, fun j u hj => by simp at hj⟩
  · exact own_strs h
theorem NewS.kept {S : Nat → Prop} (h : NewS base w v xs) (hk : Kept S w w') (hS : ∀ i, v.ownBlock = some i → ¬ S i) : NewS base w' v xs := by
  rcases h with h | h
  · exact .inl h
  · exact .inr (hk.owns h hS)
end

end Go.Proofs.YtpdoeapjdifmbaaGreatDoor

namespace Go.Proofs.YtpdoeapjdifmbaaGreatDoor
open Go.RowKit
namespace Rich
open Ver Evr Span Dep Lex

abbrev richA (k : Nat) (d : D) (sl : Value) : Array Value := #[.int .u8 (k : Int), .string ⟨d.name.toArray⟩, .int .u8 (d.op : Int), .int .i64 d.evr.epoch, .string ⟨d.evr.ver.toArray⟩, .string ⟨d.evr.rel.toArray⟩, sl]
abbrev richV (k : Nat) (d : D) (sl : Value) : Value := .agg (richA k d sl)
mutual
/-- The value reads as this rich dependency. -/
def RichS (w : World) : R → Value → Prop
  | .mk k d l, v => ∃ ao cp, v = richV k d (.slice ao l.length cp) ∧ k < 256 ∧ d.op < 256 ∧ ArgS w ao 0 l
/-- What lies there from place i on reads as these. -/
def ArgS (w : World) (ao : Option Addr) : Nat → List R → Prop
  | _, [] => True
  | i, x :: l => (∃ b off v, ao = some ⟨b, off, none⟩ ∧ b < w.heap.size ∧ RichS w x v ∧ ∀ (j : Nat) u, v.cells.toList[j]? = some u → w.cell? ⟨b, off + i * 7 + j, none⟩ = some u) ∧ ArgS w ao (i + 1) l
end
mutual
theorem RichS.kept {w w' : World} (hk : Kept (fun _ => False) w w') : ∀ (x : R) (v : Value), RichS w x v → RichS w' x v
  | .mk k d l, v, h => by
    rw [RichS] at h ⊢
    obtain ⟨ao, cp, h1, h2, h3, h4⟩ := h
    exact ⟨ao, cp, h1, h2, h3, ArgS.kept hk ao 0 l h4⟩
theorem ArgS.kept {w w' : World} (hk : Kept (fun _ => False) w w') (ao : Option Addr) : ∀ (i : Nat) (l : List R), ArgS w ao i l → ArgS w' ao i l
  | _, [], _ => by rw [ArgS]; trivial
  | i, x :: l, h => by
    rw [ArgS] at h ⊢
    obtain ⟨⟨b, off, v, h1, h2, h3, h4⟩, h5⟩ := h
    exact ⟨⟨b, off, v, h1, Nat.lt_of_lt_of_le h2 hk.size, RichS.kept hk x v h3, fun j u hj => (hk.cell (p := ⟨b, off + i * 7 + j, none⟩) h2 (fun h => h)).trans (h4 j u hj)⟩, ArgS.kept hk ao (i + 1) l h5⟩
end
theorem ArgS.at {w : World} {ao : Option Addr} : ∀ {l : List R} {i0 i : Nat} {x : R}, ArgS w ao i0 l → l[i]? = some x → ∃ b off v, ao = some ⟨b, off, none⟩ ∧ b < w.heap.size ∧ RichS w x v ∧ ∀ (j : Nat) u, v.cells.toList[j]? = some u → w.cell? ⟨b, off + (i0 + i) * 7 + j, none⟩ = some u
  | [], _, _, _, _, h => by simp at h
  | y :: l, i0, i, x, hA, h => by
    rw [ArgS] at hA
    cases i with
    | zero =>
      simp at h
      subst h
      exact hA.1
    | succ i =>
      have := ArgS.at hA.2 (i := i) (by simpa using h)
      rw [show i0 + (i + 1) = i0 + 1 + i by omega]
      exact this
/-- Args, one by one. -/
theorem ArgS.of {w : World} {ao : Option Addr} : ∀ {l : List R} {i0 : Nat}, (∀ (i : Nat) x, l[i]? = some x → ∃ b off v, ao = some ⟨b, off, none⟩ ∧ b < w.heap.size ∧ RichS w x v ∧ ∀ (j : Nat) u, v.cells.toList[j]? = some u → w.cell? ⟨b, off + (i0 + i) * 7 + j, none⟩ = some u) → ArgS w ao i0 l
  | [], _, _ => by rw [ArgS]; trivial
  | y :: l, i0, h => by
    rw [ArgS]
    refine ⟨h 0 y rfl, ArgS.of fun i x hx => ?_⟩
    have := h (i + 1) x (by simpa using hx)
    rw [show i0 + 1 + i = i0 + (i + 1) by omega]
    exact this
/-- A part as it lies there: its value, and its seven cells. -/
theorem ArgS.part {w : World} {ao : Option Addr} {l : List R} {i : Nat} {x : R} (h : ArgS w ao 0 l) (hi : l[i]? = some x) :
    ∃ (b off : Nat) (ao' : Option Addr) (cp' : Nat), ao = some ⟨b, off, none⟩ ∧ b < w.heap.size ∧ RichS w x (richV x.kind x.dep (.slice ao' x.args.length cp')) ∧
      w.cell? ⟨b, off + i * 7, none⟩ = some (.int .u8 (x.kind : Int)) ∧ w.cell? ⟨b, off + i * 7 + 1, none⟩ = some (.string ⟨x.dep.name.toArray⟩) ∧ w.cell? ⟨b, off + i * 7 + 2, none⟩ = some (.int .u8 (x.dep.op : Int)) ∧
      w.cell? ⟨b, off + i * 7 + 3, none⟩ = some (.int .i64 x.dep.evr.epoch) ∧ w.cell? ⟨b, off + i * 7 + 4, none⟩ = some (.string ⟨x.dep.evr.ver.toArray⟩) ∧ w.cell? ⟨b, off + i * 7 + 5, none⟩ = some (.string ⟨x.dep.evr.rel.toArray⟩) ∧
      w.cell? ⟨b, off + i * 7 + 6, none⟩ = some (.slice ao' x.args.length cp') := by
  obtain ⟨b, off, v, h1, h2, h3, h4⟩ := ArgS.at h hi
  obtain ⟨k, d, l'⟩ := x
  have h3' := h3
  rw [RichS] at h3'
  obtain ⟨ao', cp', rfl, _⟩ := h3'
  rw [Nat.zero_add] at h4
  exact ⟨b, off, ao', cp', h1, h2, h3, h4 0 _ rfl, h4 1 _ rfl, h4 2 _ rfl, h4 3 _ rfl, h4 4 _ rfl, h4 5 _ rfl, h4 6 _ rfl⟩
/-- By its Args. -/
theorem R.ind {P : R → Prop} (h : ∀ k d l, (∀ y ∈ l, P y) → P (.mk k d l)) : ∀ x, P x := by
  have key : ∀ (n : Nat) (x : R), SizeOf.sizeOf x ≤ n → P x := by
    intro n
    induction n with
    | zero => intro x hx; cases x; simp at hx
    | succ n ih =>
      intro x hx
      obtain ⟨k, d, l⟩ := x
      refine h k d l fun y hy => ih y ?_
      have := List.sizeOf_lt_of_mem hy
      simp at hx
      omega
  exact fun x => key _ x (Nat.le_refl _)
theorem counts_take {l : List R} {i : Nat} {x : R} (h : l[i]? = some x) : counts (l.take (i + 1)) = counts (l.take i) + count x := by
  rw [List.take_add_one, h]
  have app : ∀ a b : List R, counts (a ++ b) = counts a + counts b := by
    intro a b
    induction a with
    | nil => rw [counts, List.nil_append, Nat.zero_add]
    | cons y a ih => rw [List.cons_append, counts, counts, ih]; omega
  rw [app]
  show _ + counts [x] = _
  rw [counts, counts]
  omega
theorem counts_take_le (l : List R) (i : Nat) : counts (l.take i) ≤ counts l := by
  have app : ∀ a b : List R, counts (a ++ b) = counts a + counts b := by
    intro a b
    induction a with
    | nil => rw [counts, List.nil_append, Nat.zero_add]
    | cons y a ih => rw [List.cons_append, counts, counts, ih]; omega
  have h := app (l.take i) (l.drop i)
  rw [List.take_append_drop] at h
  omega
theorem count_pos (x : R) : 1 ≤ count x := by cases x; rw [count]; omega
theorem counts_len : ∀ l : List R, l.length ≤ counts l
  | [] => by simp
  | x :: l => by
    rw [counts]
    have := counts_len l
    have := count_pos x
    simp only [List.length_cons]
    omega
end Rich
end Go.Proofs.YtpdoeapjdifmbaaGreatDoor

namespace Go.Proofs.YtpdoeapjdifmbaaGreatDoor
open Go.RowKit Ver Evr

def evrE (n : Int) (v r : ByteArray) : E := ⟨n, v.data.toList, r.data.toList⟩
theorem empty_text {r : ByteArray} : r.data.toList = [] ↔ r = ⟨#[]⟩ := by
  constructor
  · intro h
    cases r with
    | mk d =>
      have : d = #[] := by cases d; simp_all
      rw [this]
  · intro h; rw [h]
theorem text_ne {r : ByteArray} (h : r ≠ ⟨#[]⟩) : (r.toList == []) = false ∧ ¬ r.toList = [] := by
  have : ¬ r.toList = [] := by rw [ByteArray.toList_eq]; exact fun e => h (empty_text.1 e)
  exact ⟨beq_eq_false_iff_ne.2 this, this⟩
end Go.Proofs.YtpdoeapjdifmbaaGreatDoor

namespace Go.Proofs.YtpdoeapjdifmbaaGreatDoor
open Go.RowKit Ver Evr Span Rich

/-- A plain dependency, its texts as bytes. -/
structure De where
  nm : ByteArray
  o : Nat
  n : Int
  v : ByteArray
  r : ByteArray
abbrev deA (e : De) : Array Value := #[.string e.nm, .int .u8 (e.o : Int), .int .i64 e.n, .string e.v, .string e.r]
abbrev deV (e : De) : Value := .agg (deA e)
/-- A slice of dependencies that reads as these. -/
def DesS (w : World) (v : Value) (l : List De) : Prop := ∃ ao cp, v = .slice ao l.length cp ∧ ∀ (i : Nat) e, l[i]? = some e → ∃ b off, ao = some ⟨b, off, none⟩ ∧ b < w.heap.size ∧ ∀ (j : Nat) u, (deA e)[j]? = some u → w.cell? ⟨b, off + i * 5 + j, none⟩ = some u
theorem DesS.kept {w w' : World} {v : Value} {l : List De} (h : DesS w v l) (hk : Kept (fun _ => False) w w') : DesS w' v l := by
  obtain ⟨ao, cp, h1, h2⟩ := h
  refine ⟨ao, cp, h1, fun i e hi => ?_⟩
  obtain ⟨b, off, h3, h4, h5⟩ := h2 i e hi
  exact ⟨b, off, h3, Nat.lt_of_lt_of_le h4 hk.size, fun j u hj => (hk.cell (p := ⟨b, off + i * 5 + j, none⟩) h4 (fun h => h)).trans (h5 j u hj)⟩
theorem DesS.at {w : World} {ao : Option Addr} {n cp : Nat} {l : List De} (h : DesS w (.slice ao n cp) l) {i : Nat} {e : De} (hi : l[i]? = some e) :
    n = l.length ∧ ∃ b off, ao = some ⟨b, off, none⟩ ∧ b < w.heap.size ∧ w.cell? ⟨b, off + i * 5, none⟩ = some (.string e.nm) ∧ w.cell? ⟨b, off + i * 5 + 1, none⟩ = some (.int .u8 (e.o : Int)) ∧ w.cell? ⟨b, off + i * 5 + 2, none⟩ = some (.int .i64 e.n) ∧ w.cell? ⟨b, off + i * 5 + 3, none⟩ = some (.string e.v) ∧ w.cell? ⟨b, off + i * 5 + 4, none⟩ = some (.string e.r) := by
  obtain ⟨ao', cp', h1, h2⟩ := h
  injection h1 with e1 e2 e3
  subst e1
  obtain ⟨b, off, h3, h4, h5⟩ := h2 i e hi
  exact ⟨e2, b, off, h3, h4, h5 0 _ rfl, h5 1 _ rfl, h5 2 _ rfl, h5 3 _ rfl, h5 4 _ rfl⟩
theorem DesS.nil (w : World) : DesS w (.slice none 0 0) [] := ⟨none, 0, rfl, fun i e hi => by simp at hi⟩
theorem any_get {α : Type} (f : α → Bool) (l : List α) (i : Nat) (x : α) (hx : l[i]? = some x) (h0 : (l.take i).any f = false) : (l.take (i + 1)).any f = f x := by
  rw [List.take_add_one, hx, List.any_append, h0]
  simp
end Go.Proofs.YtpdoeapjdifmbaaGreatDoor

namespace Go.Proofs.YtpdoeapjdifmbaaGreatDoor
open Go.RowKit Rich

mutual
/-- What much answers: how many parts, and whether they are more than a statement goes over. -/
def muchX : R → Nat → Nat × Bool
  | .mk _ d l, dp => if 20 < dp ∨ 100 < l.length ∨ 500 < d.name.length + d.evr.ver.length ∨ 500 < d.evr.rel.length then (0, true) else muchL l dp 1
def muchL : List R → Nat → Nat → Nat × Bool
  | [], _, n => (n, false)
  | x :: l, dp, n => if (muchX x (dp + 1)).2 = true ∨ 2000 < n + (muchX x (dp + 1)).1 then (0, true) else muchL l dp (n + (muchX x (dp + 1)).1)
end
mutual
/-- Each text, and each row, takes less than 2^47. -/
def fitsX : R → Prop
  | .mk _ d l => d.name.length < 140737488355328 ∧ d.evr.ver.length < 140737488355328 ∧ d.evr.rel.length < 140737488355328 ∧ l.length < 140737488355328 ∧ fitsL l
def fitsL : List R → Prop
  | [] => True
  | x :: l => fitsX x ∧ fitsL l
end
mutual
def smallX : R → Prop
  | .mk _ d l => d.name.length + d.evr.ver.length ≤ 500 ∧ d.evr.rel.length ≤ 500 ∧ l.length ≤ 100 ∧ smallL l
def smallL : List R → Prop
  | [] => True
  | x :: l => smallX x ∧ smallL l
end
theorem fitsL_mem : ∀ {l : List R} {x : R}, fitsL l → x ∈ l → fitsX x
  | y :: l, x, h, hx => by
    rw [fitsL] at h
    rcases List.mem_cons.1 hx with rfl | hx
    · exact h.1
    · exact fitsL_mem h.2 hx
mutual
theorem much_le : ∀ (x : R) (dp : Nat), (muchX x dp).1 ≤ 2000 ∧ ((muchX x dp).2 = false → (muchX x dp).1 = count x ∧ smallX x)
  | .mk k d l, dp => by
    rw [muchX]
    split
    · exact ⟨by simp, fun h => by simp at h⟩
    · rename_i hc
      obtain ⟨h1, h2⟩ := muchL_le l dp 1 (by omega)
      refine ⟨h1, fun h => ?_⟩
      obtain ⟨g1, g2⟩ := h2 h
      rw [count, smallX]
      exact ⟨by omega, by omega, by omega, by omega, g2⟩
theorem muchL_le : ∀ (l : List R) (dp n : Nat), n ≤ 2000 → (muchL l dp n).1 ≤ 2000 ∧ ((muchL l dp n).2 = false → (muchL l dp n).1 = n + counts l ∧ smallL l)
  | [], dp, n, hn => by rw [muchL, counts, smallL]; exact ⟨hn, fun _ => ⟨rfl, trivial⟩⟩
  | x :: l, dp, n, hn => by
    rw [muchL]
    split
    · exact ⟨by simp, fun h => by simp at h⟩
    · rename_i hc
      obtain ⟨h1, h2⟩ := much_le x (dp + 1)
      obtain ⟨g1, g2⟩ := muchL_le l dp (n + (muchX x (dp + 1)).1) (by omega)
      refine ⟨g1, fun h => ?_⟩
      obtain ⟨e1, e2⟩ := g2 h
      obtain ⟨f1, f2⟩ := h2 (by cases hb : (muchX x (dp + 1)).2 with | false => rfl | true => exact absurd (.inl hb) hc)
      rw [counts, smallL]
      exact ⟨by omega, f2, e2⟩
end
end Go.Proofs.YtpdoeapjdifmbaaGreatDoor
