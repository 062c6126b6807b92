/-
  Slices of strings. Nothing of the program is named here but its types. Rich dependencies in memory: what a value reads as. Nothing of the program is named here but its types. The walks over the document's answer for layer 3. Plain facts on EVRs as the program has them. Nothing of the program is named here. The walks over the document's answer for layer 3. Plain facts on EVRs and their texts as the program reads them: the digits, a cut, a number, what stands where. Nothing of the program is named here. strings.IndexByte among the signs of a version, and strings.Cut around one byte, whatever the library's variables hold. Contracts of the library that the program's dep asks, out of the shelf: ValidRune, HasPrefix, IndexRune. Nothing of the program is named here. strings.IndexRune and strings.ContainsRune among the signs of a name, at any rune that a text may hold; which runes may stand in a name. Conditions: as each theorem states.
-/
import Derived.Test.YtlpalepkomkngaaDoorK04
import Derived.Test.YtlpalepkomkngaaDoorK01
import Derived.Test.YtlpalepkomkngaaDoorK02
import Derived.Test.YtlpalepkomkngaaDoorRows
import Derived.Deep.CutRange
import Derived.Deep.CutBlock
import Derived.Handy
import Derived.Lib.Hide
import Derived.Deep.QuietTactic
import Derived.BigQuiet
import Derived.Lib.ItoaNum
import Derived.Lib.IndexMore
import Derived.Lib.Bytealg
import Derived.Lib.AtoiAll
import Derived.Lib.AtoiAllCases
import Derived.Shelf.Small.Strs
import Derived.Shelf.Strings.Search2
import Derived.WalkKit
import Derived.Shelf.Strings.Search3
import Derived.Shelf.Strings.Prefix
import Derived.Shelf.Strings.Runes
import Derived.Shelf.Small.Utf8
import Derived.Lib.IndexBytes
import Derived.Test.YtlpalepkomkngaaDoorK03
import Derived.Laws.Runes
import Derived.WalkMore
import Derived.Laws.RangeAny
import Derived.Lib.OthersKept
namespace Go.Proofs.YtlpalepkomkngaaDoor
open Go.RowKit

theorem add_block (a : Addr) (i : Nat) : (a.add i).block = a.block := by unfold Addr.add; split <;> rfl
/-- A slice of strings that reads as xs. -/
def StrS (w : World) (v : Value) (xs : List ByteArray) : Prop := ∃ ao cp, v = .slice ao xs.length cp ∧ ∀ j u, xs[j]? = some u → ∃ a : Addr, ao = some a ∧ w.cell? (a.add j) = some (.string u) ∧ a.block < w.heap.size
theorem StrS.kept {w w' : World} {v : Value} {xs : List ByteArray} (h : StrS w v xs) {S : Nat → Prop} (hk : Kept S w w') (hS : ∀ (a : Addr) n cp, v = .slice (some a) n cp → ¬ S a.block) : StrS w' v xs := by
  obtain ⟨ao, cp, hv, hc⟩ := h
  refine ⟨ao, cp, hv, fun j u hj => ?_⟩
  obtain ⟨a, ha, h1, h2⟩ := hc j u hj
  subst ha
  exact ⟨a, rfl, by rw [hk.cell (p := a.add j) (by rw [add_block]; exact h2) (by rw [add_block]; exact hS a _ _ hv)]; exact h1, Nat.lt_of_lt_of_le h2 hk.size⟩
theorem take_more {xs ys : List ByteArray} {i : Nat} {u t : ByteArray} (hx : xs[i]? = some u) (hy : ys[i]? = some t) (h : xs.take i = ys.take i) : (u = t → xs.take (i + 1) = ys.take (i + 1)) ∧ (u ≠ t → xs ≠ ys) := by
  constructor
  · intro e
    rw [List.take_add_one, List.take_add_one, hx, hy, h, e]
  · intro hne e
    rw [e, hy] at hx
    exact hne (Option.some.inj hx).symm

def cellsS (l : List ByteArray) : List Value := l.map Value.string
theorem cellsS_len (l : List ByteArray) : (cellsS l).length = l.length := List.length_map _
theorem own_strs {w : World} {base : Nat} {e : TypeId} {v : Value} {l : List ByteArray} (h : w.ownsRow base e 1 v l.length (cellsS l)) : StrS w v l := by
  obtain ⟨a, cp, rfl⟩ := own_form h
  refine ⟨a, cp, rfl, fun j u hj => ?_⟩
  have hj' : (cellsS l)[j]? = some (.string u) := by simp [cellsS, hj]
  have hlt : j < l.length := (List.getElem?_eq_some_iff.1 hj).1
  rcases h.2 with ⟨_, h0⟩ | ⟨g, cap, cur, e1, _⟩
  · omega
  · injection e1 with e1 e2 e3
    subst e1
    have := own_cell h hj'
    refine ⟨_, rfl, ?_, this.2⟩
    have e : (⟨g, 0, none⟩ : Addr).add j = ⟨g, j, none⟩ := by
      unfold Addr.add
      cases j <;> simp
    rw [e]; exact this.1

/-- A slice of strings in new memory (or with nothing in it). -/
def NewS (base : Nat) (w : World) (v : Value) (xs : List ByteArray) : Prop := (xs = [] ∧ ∃ a c, v = .slice a 0 c) ∨ w.ownsRow base 9 1 v xs.length (cellsS xs)
section
variable {base : Nat} {w w' : World} {v : Value} {xs : List ByteArray}
theorem NewS.strs (h : NewS base w v xs) : StrS w v xs := by
  rcases h with ⟨rfl, a, c, rfl⟩ | h
  · exact ⟨a, c, rfl, fun j u hj => by simp at hj⟩
  · exact own_strs h
theorem NewS.kept {S : Nat → Prop} (h : NewS base w v xs) (hk : Kept S w w') (hS : ∀ i, v.ownBlock = some i → ¬ S i) : NewS base w' v xs := by
  rcases h with h | h
  · exact .inl h
  · exact .inr (hk.owns h hS)
theorem NewS.form (h : NewS base w v xs) : ∃ a c, v = .slice a xs.length c := by
  rcases h with ⟨rfl, a, c, rfl⟩ | h
  · exact ⟨a, c, rfl⟩
  · exact own_form h
end

/-- A literal list of strings. -/
theorem lit_strs (w : World) (t : TypeId) (l : List ByteArray) : StrS (w.alloc (.cells (l.map Value.string).toArray t)) (.slice (some ⟨w.heap.size, 0, none⟩) l.length l.length) l := by
  refine ⟨_, _, rfl, fun j u hj => ⟨_, rfl, ?_, by simp⟩⟩
  have e : (⟨w.heap.size, 0, none⟩ : Addr).add j = ⟨w.heap.size, j, none⟩ := by
    unfold Addr.add
    cases j <;> simp
  rw [e, (Box.made w t _).cell]
  simp [hj]

end Go.Proofs.YtlpalepkomkngaaDoor

namespace Go.Proofs.YtlpalepkomkngaaDoor
open Go.RowKit
namespace Rich
open Ver Evr Span Dep Lex

abbrev richA (k : Nat) (d : D) (sl : Value) : Array Value := #[.int .u8 (k : Int), .string ⟨d.name.toArray⟩, .int .u8 (d.op : Int), .int .i64 d.evr.epoch, .string ⟨d.evr.ver.toArray⟩, .string ⟨d.evr.rel.toArray⟩, sl]
abbrev richV (k : Nat) (d : D) (sl : Value) : Value := .agg (richA k d sl)
mutual
/-- The value reads as this rich dependency. -/
def RichS (w : World) : R → Value → Prop
  | .mk k d l, v => ∃ ao cp, v = richV k d (.slice ao l.length cp) ∧ k < 256 ∧ d.op < 256 ∧ ArgS w ao 0 l
/-- What lies there from place i on reads as these. -/
def ArgS (w : World) (ao : Option Addr) : Nat → List R → Prop
  | _, [] => True
  | i, x :: l => (∃ b off v, ao = some ⟨b, off, none⟩ ∧ b < w.heap.size ∧ RichS w x v ∧ ∀ (j : Nat) u, v.cells.toList[j]? = some u → w.cell? ⟨b, off + i * 7 + j, none⟩ = some u) ∧ ArgS w ao (i + 1) l
end
mutual
theorem RichS.kept {w w' : World} (hk : Kept (fun _ => False) w w') : ∀ (x : R) (v : Value), RichS w x v → RichS w' x v
  | .mk k d l, v, h => by
    rw [RichS] at h ⊢
    obtain ⟨ao, cp, h1, h2, h3, h4⟩ := h
    exact ⟨ao, cp, h1, h2, h3, ArgS.kept hk ao 0 l h4⟩
theorem ArgS.kept {w w' : World} (hk : Kept (fun _ => False) w w') (ao : Option Addr) : ∀ (i : Nat) (l : List R), ArgS w ao i l → ArgS w' ao i l
  | _, [], _ => by rw [ArgS]; trivial
  | i, x :: l, h => by
    rw [ArgS] at h ⊢
    obtain ⟨⟨b, off, v, h1, h2, h3, h4⟩, h5⟩ := h
    exact ⟨⟨b, off, v, h1, Nat.lt_of_lt_of_le h2 hk.size, RichS.kept hk x v h3, fun j u hj => (hk.cell (p := ⟨b, off + i * 7 + j, none⟩) h2 (fun h => h)).trans (h4 j u hj)⟩, ArgS.kept hk ao (i + 1) l h5⟩
end
theorem ArgS.at {w : World} {ao : Option Addr} : ∀ {l : List R} {i0 i : Nat} {x : R}, ArgS w ao i0 l → l[i]? = some x → ∃ b off v, ao = some ⟨b, off, none⟩ ∧ b < w.heap.size ∧ RichS w x v ∧ ∀ (j : Nat) u, v.cells.toList[j]? = some u → w.cell? ⟨b, off + (i0 + i) * 7 + j, none⟩ = some u
  | [], _, _, _, _, h => by simp at h
  | y :: l, i0, i, x, hA, h => by
    rw [ArgS] at hA
    cases i with
    | zero =>
      simp at h
      subst h
      exact hA.1
    | succ i =>
      have := ArgS.at hA.2 (i := i) (by simpa using h)
      rw [show i0 + (i + 1) = i0 + 1 + i by omega]
      exact this
/-- Args, one by one. -/
theorem ArgS.of {w : World} {ao : Option Addr} : ∀ {l : List R} {i0 : Nat}, (∀ (i : Nat) x, l[i]? = some x → ∃ b off v, ao = some ⟨b, off, none⟩ ∧ b < w.heap.size ∧ RichS w x v ∧ ∀ (j : Nat) u, v.cells.toList[j]? = some u → w.cell? ⟨b, off + (i0 + i) * 7 + j, none⟩ = some u) → ArgS w ao i0 l
  | [], _, _ => by rw [ArgS]; trivial
  | y :: l, i0, h => by
    rw [ArgS]
    refine ⟨h 0 y rfl, ArgS.of fun i x hx => ?_⟩
    have := h (i + 1) x (by simpa using hx)
    rw [show i0 + 1 + i = i0 + (i + 1) by omega]
    exact this
/-- A part as it lies there: its value, and its seven cells. -/
theorem ArgS.part {w : World} {ao : Option Addr} {l : List R} {i : Nat} {x : R} (h : ArgS w ao 0 l) (hi : l[i]? = some x) :
    ∃ (b off : Nat) (ao' : Option Addr) (cp' : Nat), ao = some ⟨b, off, none⟩ ∧ b < w.heap.size ∧ RichS w x (richV x.kind x.dep (.slice ao' x.args.length cp')) ∧
      w.cell? ⟨b, off + i * 7, none⟩ = some (.int .u8 (x.kind : Int)) ∧ w.cell? ⟨b, off + i * 7 + 1, none⟩ = some (.string ⟨x.dep.name.toArray⟩) ∧ w.cell? ⟨b, off + i * 7 + 2, none⟩ = some (.int .u8 (x.dep.op : Int)) ∧
      w.cell? ⟨b, off + i * 7 + 3, none⟩ = some (.int .i64 x.dep.evr.epoch) ∧ w.cell? ⟨b, off + i * 7 + 4, none⟩ = some (.string ⟨x.dep.evr.ver.toArray⟩) ∧ w.cell? ⟨b, off + i * 7 + 5, none⟩ = some (.string ⟨x.dep.evr.rel.toArray⟩) ∧
      w.cell? ⟨b, off + i * 7 + 6, none⟩ = some (.slice ao' x.args.length cp') := by
  obtain ⟨b, off, v, h1, h2, h3, h4⟩ := ArgS.at h hi
  obtain ⟨k, d, l'⟩ := x
  have h3' := h3
  rw [RichS] at h3'
  obtain ⟨ao', cp', rfl, _⟩ := h3'
  rw [Nat.zero_add] at h4
  exact ⟨b, off, ao', cp', h1, h2, h3, h4 0 _ rfl, h4 1 _ rfl, h4 2 _ rfl, h4 3 _ rfl, h4 4 _ rfl, h4 5 _ rfl, h4 6 _ rfl⟩
/-- By its Args. -/
theorem R.ind {P : R → Prop} (h : ∀ k d l, (∀ y ∈ l, P y) → P (.mk k d l)) : ∀ x, P x := by
  have key : ∀ (n : Nat) (x : R), SizeOf.sizeOf x ≤ n → P x := by
    intro n
    induction n with
    | zero => intro x hx; cases x; simp at hx
    | succ n ih =>
      intro x hx
      obtain ⟨k, d, l⟩ := x
      refine h k d l fun y hy => ih y ?_
      have := List.sizeOf_lt_of_mem hy
      simp at hx
      omega
  exact fun x => key _ x (Nat.le_refl _)
theorem counts_take {l : List R} {i : Nat} {x : R} (h : l[i]? = some x) : counts (l.take (i + 1)) = counts (l.take i) + count x := by
  rw [List.take_add_one, h]
  have app : ∀ a b : List R, counts (a ++ b) = counts a + counts b := by
    intro a b
    induction a with
    | nil => rw [counts, List.nil_append, Nat.zero_add]
    | cons y a ih => rw [List.cons_append, counts, counts, ih]; omega
  rw [app]
  show _ + counts [x] = _
  rw [counts, counts]
  omega
theorem counts_take_le (l : List R) (i : Nat) : counts (l.take i) ≤ counts l := by
  have app : ∀ a b : List R, counts (a ++ b) = counts a + counts b := by
    intro a b
    induction a with
    | nil => rw [counts, List.nil_append, Nat.zero_add]
    | cons y a ih => rw [List.cons_append, counts, counts, ih]; omega
  have h := app (l.take i) (l.drop i)
  rw [List.take_append_drop] at h
  omega
theorem count_pos (x : R) : 1 ≤ count x := by cases x; rw [count]; omega
theorem counts_len : ∀ l : List R, l.length ≤ counts l
  | [] => by simp
  | x :: l => by
    rw [counts]
    have := counts_len l
    have := count_pos x
    simp only [List.length_cons]
    omega
end Rich
end Go.Proofs.YtlpalepkomkngaaDoor

namespace Go.Proofs.YtlpalepkomkngaaDoor
open Go.RowKit Ver Evr

theorem take_ok {s : List UInt8} {i : Nat} {c : UInt8} (h : (s.take i).all okB = true) (hc : s[i]? = some c) (hok : okB c = true) : (s.take (i + 1)).all okB = true := by
  rw [List.take_add_one, hc, List.all_append, h]
  simp [hok]
theorem word_not {s : List UInt8} {i : Nat} {c : UInt8} (hc : s[i]? = some c) (hok : okB c = false) : wordE s = false := by
  unfold wordE
  have : s.all okB = false := by
    rw [List.all_eq_false]
    exact ⟨c, List.mem_of_getElem? hc, by simp [hok]⟩
  rw [this]
  rfl

end Go.Proofs.YtlpalepkomkngaaDoor

namespace Go.Proofs.YtlpalepkomkngaaDoor
open Go.RowKit Ver Evr

def evrE (n : Int) (v r : ByteArray) : E := ⟨n, v.data.toList, r.data.toList⟩
/-- An EVR as a struct. -/
def evrV (n : Int) (v r : ByteArray) : Value := .agg #[.int .i64 n, .string v, .string r]
theorem empty_text {r : ByteArray} : r.data.toList = [] ↔ r = ⟨#[]⟩ := by
  constructor
  · intro h
    cases r with
    | mk d =>
      have : d = #[] := by cases d; simp_all
      rw [this]
  · intro h; rw [h]
theorem text_ne {r : ByteArray} (h : r ≠ ⟨#[]⟩) : (r.toList == []) = false ∧ ¬ r.toList = [] := by
  have : ¬ r.toList = [] := by rw [ByteArray.toList_eq]; exact fun e => h (empty_text.1 e)
  exact ⟨beq_eq_false_iff_ne.2 this, this⟩
end Go.Proofs.YtlpalepkomkngaaDoor

namespace Go.Proofs.YtlpalepkomkngaaDoor
open Go.RowKit Ver Evr

/-- An EVR. -/
theorem may_low {n : Int} {v r : ByteArray} {dep : Bool} (h : n < 0 ∨ 2147483647 < n) : mayE (evrE n v r) dep = false := by
  unfold mayE evrE
  rcases h with h | h
  · simp [show ¬ 0 ≤ n by omega]
  · simp [show ¬ n ≤ 2147483647 by omega]
theorem may_ver {n : Int} {v r : ByteArray} {dep : Bool} (h : wordE v.data.toList = false) : mayE (evrE n v r) dep = false := by unfold mayE evrE; simp [h]
theorem may_dep {n : Int} {v : ByteArray} {dep : Bool} (h0 : 0 ≤ n) (h1 : n ≤ 2147483647) (h : wordE v.data.toList = true) : mayE (evrE n v ⟨#[]⟩) dep = dep := by unfold mayE evrE; simp [h, h0, h1]
theorem may_rel {n : Int} {v r : ByteArray} {dep : Bool} (h0 : 0 ≤ n) (h1 : n ≤ 2147483647) (h : wordE v.data.toList = true) (hr : r ≠ ⟨#[]⟩) : mayE (evrE n v r) dep = wordE r.data.toList := by
  unfold mayE evrE
  simp only [h, h0, h1, decide_true, Bool.true_and, if_neg (fun e => hr (empty_text.1 e))]

/-- What cut answers. -/
def CutR (s : ByteArray) (c : UInt8) (e : Ending) : Prop := ∃ x y z, e = .returned (.tuple #[.string x, .string y, .bool z]) ∧ cut c s.data.toList = (x.data.toList, y.data.toList, z) ∧ x.size ≤ s.size ∧ y.size ≤ s.size
theorem cut_step {c b : UInt8} {x y : List UInt8} (hx : ∀ z ∈ x, z ≠ c) (h : b = c) : cut c (x ++ b :: y) = (x, y, true) := by rw [h]; exact cut_at c x y hx
end Go.Proofs.YtlpalepkomkngaaDoor

namespace Go.Proofs.YtlpalepkomkngaaDoor
namespace Evr
open Ver

theorem dec_digits : ∀ n, Lib.decDigits n = digits n := by
  intro n
  induction n using Nat.strongRecOn with
  | _ n ih =>
    by_cases h : n < 10
    · rw [Lib.decDigits, dif_pos h, digits_small h]
      unfold dig
      rw [Nat.mod_eq_of_lt h]
    · rw [Lib.decDigits, dif_neg h, digits_big h, ih (n / 10) (by omega)]
      rfl
theorem itoa_digits {n : Int} (h : 0 < n) : Lib.itoa n = digits n.toNat := by
  unfold Lib.itoa
  rw [if_neg (by omega), dec_digits]
theorem index_one (c : UInt8) : ∀ l : List UInt8, (Lib.index l [c] = -1 ∧ cut c l = (l, [], false)) ∨ ∃ i : Nat, Lib.index l [c] = i ∧ cut c l = (l.take i, l.drop (i + 1), true)
  | [] => .inl ⟨rfl, rfl⟩
  | b :: l => by
    rw [cut, Lib.index]
    by_cases h : b = c
    · subst h
      exact .inr ⟨0, by simp, by simp⟩
    · rw [if_neg h]
      have h1 : ([c].isPrefixOf (b :: l)) = false := by
        have h2 : (c == b) = false := by simp; exact fun e => h e.symm
        simp [List.isPrefixOf, h2]
      rw [h1]
      rcases index_one c l with ⟨h2, h3⟩ | ⟨i, h2, h3⟩
      · rw [h2, h3]; exact .inl ⟨rfl, rfl⟩
      · rw [h2, h3]
        refine .inr ⟨i + 1, ?_, by simp⟩
        have h4 : ((i : Int) == -1) = false := by rw [beq_eq_false_iff_ne]; omega
        simp [h4]
theorem lib_cut (c : UInt8) (l : List UInt8) : Lib.cut l [c] = cut c l := by
  unfold Lib.cut
  rcases index_one c l with ⟨h2, h3⟩ | ⟨i, h2, h3⟩
  · rw [h2, h3, if_neg (by omega)]
  · rw [h2, h3, if_pos (by omega)]
    simp
/-- The number that a text reads as: 0 where it is none, the greatest or the least where it is too large. -/
def numV (l : List UInt8) : Int := match Lib.atoiAll l with | .ok v => v | .range => Lib.atoiSat l | _ => 0
theorem uint_val : ∀ (l : List UInt8) (acc : Nat), l.all isDig = true → (∀ k, k ≤ l.length → acc * 10 ^ k < 1844674407370955162 ∨ k = l.length) → l.foldl (fun n b => n * 10 + (b.toNat - 48)) acc < 1844674407370955162 → Lib.parseUint10 acc l = .ok (l.foldl (fun n b => n * 10 + (b.toNat - 48)) acc)
  | [], acc, _, _, _ => rfl
  | b :: l, acc, hd, _, hv => by
    have hd' : isDig b = true ∧ l.all isDig = true := by simpa using hd
    have hb : 48 ≤ b.toNat ∧ b.toNat ≤ 57 := by have := hd'.1; unfold isDig at this; simpa using this
    have mono : ∀ (l : List UInt8) (a : Nat), a ≤ l.foldl (fun n b => n * 10 + (b.toNat - 48)) a := by
      intro l
      induction l with
      | nil => intro a; exact Nat.le_refl _
      | cons c l ih => intro a; exact Nat.le_trans (by omega) (ih (a * 10 + (c.toNat - 48)))
    have hm := mono l (acc * 10 + (b.toNat - 48))
    have hv' : l.foldl (fun n b => n * 10 + (b.toNat - 48)) (acc * 10 + (b.toNat - 48)) < 1844674407370955162 := hv
    rw [Lib.parseUint10, if_pos hb, if_neg (by omega), if_neg (by omega)]
    exact uint_val l _ hd'.2 (fun k hk => by
      by_cases h : k = l.length
      · exact .inr h
      · refine .inl ?_
        have pw : ∀ (l : List UInt8) (a k : Nat), k ≤ l.length → a * 10 ^ k ≤ l.foldl (fun n b => n * 10 + (b.toNat - 48)) a := by
          intro l
          induction l with
          | nil => intro a k hk; have : k = 0 := by simpa using hk
                   subst this; simp
          | cons c l ih =>
            intro a k hk
            cases k with
            | zero => simpa using mono (c :: l) a
            | succ k =>
              have h1 := ih (a * 10 + (c.toNat - 48)) k (by simpa using hk)
              refine Nat.le_trans ?_ h1
              rw [Nat.pow_succ, Nat.mul_comm (10 ^ k) 10, ← Nat.mul_assoc]
              exact Nat.mul_le_mul_right _ (by omega)
        exact Nat.lt_of_le_of_lt (pw l _ k hk) hv') hv'
theorem num_digits {n : Nat} (h : n ≤ 2147483647) : numV (digits n) = n := by
  unfold numV
  have hall := digits_all n
  have hne := digits_ne n
  have hv := digits_val n
  cases hd : digits n with
  | nil => exact absurd hd hne
  | cons b l =>
    rw [hd] at hall hv
    have hb : 48 ≤ b.toNat ∧ b.toNat ≤ 57 := by
      have : isDig b = true := by have h2 : isDig b = true ∧ l.all isDig = true := by simpa using hall
                                  exact h2.1
      unfold isDig at this; simpa using this
    have hu : Lib.parseMag (b :: l) = .ok n := by
      have h1 := uint_val (b :: l) 0 hall (fun k _ => .inl (by omega)) (by show val (b :: l) < _; omega)
      unfold Lib.parseMag
      rw [if_neg (by simp), h1]
      show Lib.NumEnd.ok (val (b :: l)) = _
      rw [hv]
    rw [Lib.atoiAll_plain b l (by omega) (by omega), hu]
    have hs : Lib.signless (Lib.NumEnd.ok n) = Lib.NumEnd.ok (n : Int) := by
      unfold Lib.signless
      simp only
      rw [if_neg (by omega)]
    rw [hs]
/-- What stands in a text for an epoch, a version, a release. -/
def splitE (s : List UInt8) : E :=
  if (cut 58 s).2.2 = true then ⟨numV (cut 58 s).1, (cut 45 (cut 58 s).2.1).1, (cut 45 (cut 58 s).2.1).2.1⟩ else ⟨0, (cut 45 s).1, (cut 45 s).2.1⟩
theorem tail_cut {e : E} (h : mayE e true = true) : (cut 45 (e.ver ++ (if e.rel = [] then [] else 45 :: e.rel))).1 = e.ver ∧ (cut 45 (e.ver ++ (if e.rel = [] then [] else 45 :: e.rel))).2.1 = e.rel := by
  obtain ⟨_, _, h3, _⟩ := may_parts h
  have hv : ∀ b ∈ e.ver, b ≠ 45 := fun b hb => (ok_not ((word_ok h3).1 b hb)).2
  by_cases hr : e.rel = []
  · rw [if_pos hr, List.append_nil, cut_no 45 e.ver hv, hr]
    exact ⟨rfl, rfl⟩
  · rw [if_neg hr, cut_at 45 e.ver e.rel hv]
    exact ⟨rfl, rfl⟩
theorem split_show {e : E} (h : mayE e true = true) : splitE (showE e) = e := by
  obtain ⟨h1, h2, h3, h4⟩ := may_parts h
  obtain ⟨t1, t2⟩ := tail_cut h
  unfold showE
  by_cases h0 : 0 < e.epoch
  · rw [if_pos h0]
    have e1 : digits e.epoch.toNat ++ [58] ++ e.ver ++ (if e.rel = [] then [] else 45 :: e.rel) = digits e.epoch.toNat ++ 58 :: (e.ver ++ (if e.rel = [] then [] else 45 :: e.rel)) := by simp
    have hd : ∀ b ∈ digits e.epoch.toNat, b ≠ 58 := fun b hb => dig_not (List.all_eq_true.1 (digits_all _) b hb)
    unfold splitE
    rw [e1, cut_at 58 _ _ hd, if_pos rfl]
    show E.mk (numV (digits e.epoch.toNat)) (cut 45 (e.ver ++ (if e.rel = [] then [] else 45 :: e.rel))).1 (cut 45 (e.ver ++ (if e.rel = [] then [] else 45 :: e.rel))).2.1 = e
    have he : ((e.epoch.toNat : Nat) : Int) = e.epoch := by omega
    rw [t1, t2, num_digits (by omega), he]
  · rw [if_neg h0, List.nil_append]
    have hn : ∀ b ∈ e.ver ++ (if e.rel = [] then [] else 45 :: e.rel), b ≠ 58 := by
      intro b hb
      rcases List.mem_append.1 hb with hb | hb
      · exact (ok_not ((word_ok h3).1 b hb)).1
      · by_cases hr : e.rel = []
        · rw [if_pos hr] at hb; cases hb
        · rw [if_neg hr] at hb
          rcases List.mem_cons.1 hb with rfl | hb
          · decide
          · rcases h4 with h4 | h4
            · exact absurd h4 hr
            · exact (ok_not ((word_ok h4).1 b hb)).1
    unfold splitE
    have he : (0 : Int) = e.epoch := by omega
    rw [cut_no 58 _ hn, if_neg (by simp), t1, t2, he]
theorem parse_split (s : List UInt8) : parseE s = if mayE (splitE s) true = true ∧ showE (splitE s) = s then some (splitE s) else none := by
  by_cases h : mayE (splitE s) true = true ∧ showE (splitE s) = s
  · rw [if_pos h]
    have h1 := parse_show h.1
    rw [h.2] at h1
    exact h1
  · rw [if_neg h]
    cases hp : parseE s with
    | none => rfl
    | some e =>
      obtain ⟨h1, h2⟩ := show_parse hp
      have h3 := split_show h1
      rw [h2] at h3
      exact absurd ⟨by rw [h3]; exact h1, by rw [h3]; exact h2⟩ h
/-- A byte that is no letter and no digit, among the signs. -/
theorem sign_index (b : UInt8) : decide (0 ≤ Lib.indexByte [46, 95, 43, 126, 94] b) = (decide (b.toNat = 46) || decide (b.toNat = 95) || decide (b.toNat = 43) || decide (b.toNat = 126) || decide (b.toNat = 94)) := by
  have key : ((List.range 256).all fun n => decide (0 ≤ Lib.indexByte [46, 95, 43, 126, 94] (UInt8.ofNat n)) == (decide (n = 46) || decide (n = 95) || decide (n = 43) || decide (n = 126) || decide (n = 94))) = true := by kernel_rfl
  have h := List.all_eq_true.1 key b.toNat (List.mem_range.2 (UInt8.toNat_lt b))
  have hb : UInt8.ofNat b.toNat = b := by simp
  rw [hb] at h
  simpa using h
end Evr
end Go.Proofs.YtlpalepkomkngaaDoor

namespace Go.Proofs.YtlpalepkomkngaaDoor
open Go.Shelf
def sh_lays137_ren : Go.Shelf.Ren := ⟨fun | 137 => 74 | 217 => 84 | 266 => 88 | n => n, fun | 9 => 9 | 5 => 5 | 3 => 3 | n => n, fun | n => n⟩
theorem sh_lays137 : Go.Proofs.Lays.n137 Tryd.prog sh_lays137_ren := {
  mixed := by kernel_rfl
  f137 := Tryd.func74.trans (congrArg some (by kernel_rfl))
  f217 := Tryd.func84.trans (congrArg some (by kernel_rfl))
  f266 := Tryd.func88.trans (congrArg some (by kernel_rfl))
  t3 := Tryd.underlying3
  a3 := Tryd.isAgg3
  z3 := Tryd.sizeOf3
  v3 := Tryd.zeroValue3
  t5 := Tryd.underlying5
  a5 := Tryd.isAgg5
  z5 := Tryd.sizeOf5
  v5 := Tryd.zeroValue5
  t9 := Tryd.underlying9
  a9 := Tryd.isAgg9
  z9 := Tryd.sizeOf9
  v9 := Tryd.zeroValue9 }
open Go.RowKit in
theorem sh_strings_IndexByte (s : ByteArray) (c : Int) (w : World) :
    Calls Tryd.prog 74 #[.string s, .int .u8 c] w fun e w' => e = .returned (.int .i64 (Lib.indexByte s.data.toList c.toNat.toUInt8)) ∧ w' = w := Any.strings_IndexByte sh_lays137 s c w
open Go.RowKit Ver Evr
theorem index_sign (b : UInt8) (w : World) :
    Calls Tryd.prog 74 #[.string ⟨#[46, 95, 43, 126, 94]⟩, .int .u8 (b.toNat : Int)] w fun e w' => e = .returned (.int .i64 (Lib.indexByte [46, 95, 43, 126, 94] b)) ∧ w' = w :=
  (sh_strings_IndexByte ⟨#[46, 95, 43, 126, 94]⟩ (b.toNat : Int) w).mono fun e w' ⟨h1, h2⟩ => ⟨by rw [h1]; simp, h2⟩
theorem byte_index (c : UInt8) : ∀ l : List UInt8, (Lib.indexByte l c = -1 ∧ cut c l = (l, [], false)) ∨ ∃ i : Nat, Lib.indexByte l c = i ∧ i < l.length ∧ cut c l = (l.take i, l.drop (i + 1), true)
  | [] => .inl ⟨rfl, rfl⟩
  | b :: l => by
    rw [cut, Lib.indexByte]
    by_cases h : b = c
    · subst h
      exact .inr ⟨0, by simp, by simp, by simp⟩
    · rw [if_neg h]
      have h1 : (b == c) = false := by simp; exact h
      rw [h1]
      rcases byte_index c l with ⟨h2, h3⟩ | ⟨i, h2, hi, h3⟩
      · rw [h2, h3]; exact .inl ⟨rfl, rfl⟩
      · rw [h2, h3]
        refine .inr ⟨i + 1, ?_, by simp; omega, by simp⟩
        have h4 : ((i : Int) == -1) = false := by rw [beq_eq_false_iff_ne]; omega
        simp [h4]
end Go.Proofs.YtlpalepkomkngaaDoor

namespace Go.Proofs.YtlpalepkomkngaaDoor
open Go.Shelf
def sh_lays119_ren : Go.Shelf.Ren := ⟨fun | 119 => 81 | n => n, fun | 21 => 21 | 4 => 4 | n => n, fun | n => n⟩
theorem sh_lays119 : Go.Proofs.Lays.n119 Tryd.prog sh_lays119_ren := {
  mixed := by kernel_rfl
  f119 := Tryd.func81.trans (congrArg some (by kernel_rfl))
  t4 := Tryd.underlying4
  a4 := Tryd.isAgg4
  z4 := Tryd.sizeOf4
  v4 := Tryd.zeroValue4
  t21 := Tryd.underlying21
  a21 := Tryd.isAgg21
  z21 := Tryd.sizeOf21
  v21 := Tryd.zeroValue21 }
theorem sh_utf8_ValidRune (r : Int) (w : World) :
    Calls Tryd.prog 81 #[.int .i32 r] w fun e w' => e = .returned (.bool (Lib.validRune r)) ∧ w' = w := Any.utf8_ValidRune sh_lays119 r w
def sh_lays99_ren : Go.Shelf.Ren := ⟨fun | 99 => 48 | 206 => 61 | n => n, fun | 9 => 9 | 4 => 4 | 3 => 3 | n => n, fun | n => n⟩
theorem sh_lays99 : Go.Proofs.Lays.n99 Tryd.prog sh_lays99_ren := {
  mixed := by kernel_rfl
  f99 := Tryd.func48.trans (congrArg some (by kernel_rfl))
  f206 := Tryd.func61.trans (congrArg some (by kernel_rfl))
  t3 := Tryd.underlying3
  a3 := Tryd.isAgg3
  z3 := Tryd.sizeOf3
  v3 := Tryd.zeroValue3
  t4 := Tryd.underlying4
  a4 := Tryd.isAgg4
  z4 := Tryd.sizeOf4
  v4 := Tryd.zeroValue4
  t9 := Tryd.underlying9
  a9 := Tryd.isAgg9
  z9 := Tryd.sizeOf9
  v9 := Tryd.zeroValue9 }
open Go.RowKit Go.Lib in
theorem sh_strings_HasPrefix (s p : ByteArray) (w : World) :
    Calls Tryd.prog 48 #[.string s, .string p] w fun e w' => e = .returned (.bool (Lib.hasPrefix s.data.toList p.data.toList)) ∧ w' = w := Any.strings_HasPrefix sh_lays99 s p w
def sh_lays152_ren : Go.Shelf.Ren := ⟨fun | 152 => 73 | 137 => 74 | 119 => 81 | 224 => 82 | 225 => 83 | 217 => 84 | 266 => 88 | n => n, fun | 9 => 9 | 21 => 21 | 3 => 3 | 4 => 4 | 5 => 5 | 0 => 0 | 46 => 127 | n => n, fun | n => n⟩
theorem sh_lays152 : Go.Proofs.Lays.n152 Tryd.prog sh_lays152_ren := {
  mixed := by kernel_rfl
  f119 := Tryd.func81.trans (congrArg some (by kernel_rfl))
  f137 := Tryd.func74.trans (congrArg some (by kernel_rfl))
  f152 := Tryd.func73.trans (congrArg some (by kernel_rfl))
  f217 := Tryd.func84.trans (congrArg some (by kernel_rfl))
  f224 := Tryd.func82.trans (congrArg some (by kernel_rfl))
  f225 := Tryd.func83.trans (congrArg some (by kernel_rfl))
  f266 := Tryd.func88.trans (congrArg some (by kernel_rfl))
  t0 := Tryd.underlying0
  a0 := Tryd.isAgg0
  z0 := Tryd.sizeOf0
  v0 := Tryd.zeroValue0
  t3 := Tryd.underlying3
  a3 := Tryd.isAgg3
  z3 := Tryd.sizeOf3
  v3 := Tryd.zeroValue3
  t4 := Tryd.underlying4
  a4 := Tryd.isAgg4
  z4 := Tryd.sizeOf4
  v4 := Tryd.zeroValue4
  t5 := Tryd.underlying5
  a5 := Tryd.isAgg5
  z5 := Tryd.sizeOf5
  v5 := Tryd.zeroValue5
  t9 := Tryd.underlying9
  a9 := Tryd.isAgg9
  z9 := Tryd.sizeOf9
  v9 := Tryd.zeroValue9
  t21 := Tryd.underlying21
  a21 := Tryd.isAgg21
  z21 := Tryd.sizeOf21
  v21 := Tryd.zeroValue21
  t46 := Tryd.underlying127
  a46 := Tryd.isAgg127
  z46 := Tryd.sizeOf127
  v46 := Tryd.zeroValue127 }
open Go.RowKit Go.Lib in
theorem sh_strings_IndexRune_ascii (s : ByteArray) (r : Int) (w : World) (h0 : 0 ≤ r) (h1 : r < 128) :
    Calls Tryd.prog 73 #[.string s, .int .i32 r] w fun e w' => e = .returned (.int .i64 (Lib.indexByte s.data.toList r.toNat.toUInt8)) ∧ w' = w := Any.strings_IndexRune_ascii sh_lays152 s r w h0 h1
open Go.RowKit Go.Lib
theorem string_info : (Tryd.prog.info? 9).map (fun i => (i.zero, i.size, i.bytes)) = some (some (.string ByteArray.empty), 1, 16) := by kernel_rfl
end Go.Proofs.YtlpalepkomkngaaDoor

namespace Go.Proofs.YtlpalepkomkngaaDoor
open Go.RowKit Ver Evr Dep

/-- The signs that may stand in a name. -/
abbrev signs9 : ByteArray := ⟨#[46, 95, 43, 45, 47, 58, 64, 126, 94]⟩
theorem signs_low : ∀ (pos : Nat) (h : pos < signs9.size), (signs9[pos]'h).toNat < 128 := by decide
theorem signs_all : ∀ b ∈ signs9.data.toList, b.toNat < 128 := by decide
theorem sign_none (a e : Nat) (c : UInt8) (hc : 128 ≤ c.toNat) : Lib.indexByte (signs9.extract a e).data.toList c = -1 := by
  rw [← Lib.firstIdx_eq]
  exact firstIdx_ascii signs9 a e c signs_all hc

set_option maxRecDepth 100000 in
set_option maxHeartbeats 2000000 in
theorem rune_low (b : UInt8) (hb : b.toNat < 128) (w : World) :
    Calls Tryd.prog 73 #[.string signs9, .int .i32 (b.toNat : Int)] w fun e w' => e = .returned (.int .i64 (Lib.indexByte signs9.data.toList b)) ∧ w' = w :=
  (sh_strings_IndexRune_ascii signs9 (b.toNat : Int) w (by omega) (by omega)).mono fun e w' ⟨h1, h2⟩ => ⟨by rw [h1]; simp, h2⟩

set_option maxRecDepth 100000 in
set_option maxHeartbeats 2000000 in
theorem rune_err (w : World) :
    Calls Tryd.prog 73 #[.string signs9, .int .i32 65533] w fun e w' => e = .returned (.int .i64 (-1)) ∧ Kept (fun _ => False) w w' := by
  go_enter Tryd.func73, Tryd.ntmps73
  go_wp2_with fail
  go_loopw [] (fun wr => ∃ pos : Nat, wr = w.iter signs9 pos ∧ pos ≤ 9) (fun wr => 9 - wr.iterPos w.heap.size)
  case atStart => exact ⟨0, rfl, by omega⟩
  case round =>
    obtain ⟨pos, rfl, hp⟩ := hrel
    by_cases h : pos < 9
    · have hnx : ∀ ty, (Instr.next (.pointer (some ⟨w.heap.size, 0, none⟩)) true ty).run Tryd.prog (w.iter signs9 pos) = _ := fun ty => run_next_ascii w signs9 pos ty h (signs_low pos h)
      have hlow := signs_low pos h
      generalize (signs9[pos]'h).toNat = R at hnx hlow
      have hne : ((R : Int) == 65533) = false := by simp; omega
      go_wp2_with fail
      go_roundw
      case rel => exact ⟨pos + 1, rfl, by omega⟩
      case measure => simp; omega
    · have hnx : ∀ ty, (Instr.next (.pointer (some ⟨w.heap.size, 0, none⟩)) true ty).run Tryd.prog (w.iter signs9 pos) = _ := fun ty => run_next_end w signs9 pos ty (by show ¬ pos < 9; exact h)
      go_wp2_with fail
      go_ret
      exact ⟨rfl, (Kept.refl _ _).alloc _⟩
set_option maxRecDepth 100000 in
set_option maxHeartbeats 2000000 in
theorem rune_bad (r : Int) (h0 : 128 ≤ r) (he : r ≠ 65533) (hv : Lib.validRune r = false) (w : World) :
    Calls Tryd.prog 73 #[.string signs9, .int .i32 r] w fun e w' => e = .returned (.int .i64 (-1)) ∧ Kept (fun _ => False) w w' := by
  have hV : ∀ W, Calls Tryd.prog 81 #[.int .i32 r] W fun e w' => e = .returned (.bool false) ∧ w' = W := fun W => by
    have := sh_utf8_ValidRune r W
    rw [hv] at this
    exact this
  have g1 : decide (r < 128) = false := by simp; omega
  have g2 : (r == 65533) = false := by simp; exact he
  have g3 : decide (0 ≤ r) = true := by simp; omega
  clear hv he
  go_enter Tryd.func73, Tryd.ntmps73
  go_wp2_with (go_at_call 81; with_reducible refine (hV _).mono ?_; rintro e w1 ⟨rfl, rfl⟩)
  go_ret
  exact ⟨rfl, Kept.refl _ _⟩
set_option maxRecDepth 100000 in
set_option maxHeartbeats 2000000 in
theorem rune_high (r : Int) (h0 : 128 ≤ r) (he : r ≠ 65533) (hv : Lib.validRune r = true) (w : World) :
    Calls Tryd.prog 73 #[.string signs9, .int .i32 r] w fun e w' => e = .returned (.int .i64 (-1)) ∧ Kept (fun _ => False) w w' := by
  have hV : ∀ W, Calls Tryd.prog 81 #[.int .i32 r] W fun e w' => e = .returned (.bool true) ∧ w' = W := fun W => by
    have := sh_utf8_ValidRune r W
    rw [hv] at this
    exact this
  obtain ⟨hs2, hs4, hlast⟩ := encode_facts r (by rw [validRune_eq]; exact hv) h0
  have hconv : ∀ W, (convert 21 9 (.int .i32 r)).run Tryd.prog W = .ok (.string (Utf8.encode r)) W := fun W => run_convert_int_string W _ _ _ _ (by kernel_rfl) Tryd.underlying9
  generalize Utf8.encode r = E at hconv hs2 hs4 hlast
  have g1 : decide (r < 128) = false := by simp; omega
  have g2 : (r == 65533) = false := by simp; exact he
  have g3 : decide (0 ≤ r) = true := by simp; omega
  have hI : ∀ (a e : Nat) (c : UInt8) (_ : 128 ≤ c.toNat) (W : World), Calls Tryd.prog 74 #[.string (signs9.extract a e), .int .u8 (c.toNat : Int)] W fun e w' => e = .returned (.int .i64 (-1)) ∧ w' = W := fun a e c hc W =>
    (sh_strings_IndexByte (signs9.extract a e) (c.toNat : Int) W).mono fun e' w' ⟨h1, h2⟩ => ⟨by rw [h1]; simp only [Int.toNat_natCast, Nat.toUInt8_eq, UInt8.ofNat_toNat]; rw [sign_none a e c hc], h2⟩
  clear hv he
  obtain ⟨c, hc⟩ : ∃ c, c = E[E.size - 1]'(by omega) := ⟨_, rfl⟩
  have hcl : 128 ≤ c.toNat := by rw [hc]; exact hlast _
  have hI2 := fun a e W => hI a e c hcl W
  have HI := Lib.hid hI2
  have hsz : E.size = 2 ∨ E.size = 3 ∨ E.size = 4 := by omega
  clear hlast hI hI2
  have hn1 : (((signs9[1]'(by decide)).toNat : Int) != (c.toNat : Int)) = true := by
    rw [show (signs9[1]'(by decide)) = 95 from rfl]
    simp
    omega
  have hn2 : (((signs9[2]'(by decide)).toNat : Int) != (c.toNat : Int)) = true := by
    rw [show (signs9[2]'(by decide)) = 43 from rfl]
    simp
    omega
  have hn3 : (((signs9[3]'(by decide)).toNat : Int) != (c.toNat : Int)) = true := by
    rw [show (signs9[3]'(by decide)) = 45 from rfl]
    simp
    omega
  have hS2 : ∀ W, (Instr.slice 9 (.string signs9) (some (.int .i64 2)) none none).run Tryd.prog W = .ok (.string (signs9.extract 2 9)) W := fun W => by kernel_rfl
  have hS3 : ∀ W, (Instr.slice 9 (.string signs9) (some (.int .i64 3)) none none).run Tryd.prog W = .ok (.string (signs9.extract 3 9)) W := fun W => by kernel_rfl
  have hS4 : ∀ W, (Instr.slice 9 (.string signs9) (some (.int .i64 4)) none none).run Tryd.prog W = .ok (.string (signs9.extract 4 9)) W := fun W => by kernel_rfl
  have hw2 : IntKind.i64.wrap 2 = 2 := by kernel_rfl
  have hw3 : IntKind.i64.wrap 3 = 3 := by kernel_rfl
  have hw4 : IntKind.i64.wrap 4 = 4 := by kernel_rfl
  rcases hsz with h2 | h2 | h2
  · have hc' : E[1]'(by omega) = c := by rw [hc]; simp [h2]
    clear hc
    go_enter Tryd.func73, Tryd.ntmps73
    go_wp2_with (first | (go_at_call 81; with_reducible refine (hV _).mono ?_; rintro e w1 ⟨rfl, rfl⟩) | fail)
    go_step3
    go_wp2_with fail
    refine wp_loop_rounds 1 ?_
    rw [rounds_succ]
    go_wp2_with fail
    go_step3
    go_wp2_with fail
    go_quiet (fail)
    have hk := (Kept.refl (fun _ => False) w1).drewN nq
    generalize w1.drewN nq = w2 at hk ⊢
    go_wp2_with fail
    go_quiet ((go_at_call 74; exact Calls.quiet_of_same (HI.out _ _ _)))
    go_wp2_with fail
    simp only [Exit.inBlock, Exit.then, Exit.noGoto_ret]
    go_ret
    exact ⟨rfl, hk.drewN _⟩
  · have hc' : E[2]'(by omega) = c := by rw [hc]; simp [h2]
    clear hc
    go_enter Tryd.func73, Tryd.ntmps73
    go_wp2_with (first | (go_at_call 81; with_reducible refine (hV _).mono ?_; rintro e w1 ⟨rfl, rfl⟩) | fail)
    go_step3
    go_wp2_with fail
    refine wp_loop_rounds 1 ?_
    rw [rounds_succ]
    go_wp2_with fail
    go_step3
    go_wp2_with fail
    go_quiet (fail)
    have hk := (Kept.refl (fun _ => False) w1).drewN nq
    generalize w1.drewN nq = w2 at hk ⊢
    go_wp2_with fail
    go_quiet ((go_at_call 74; exact Calls.quiet_of_same (HI.out _ _ _)))
    go_wp2_with fail
    simp only [Exit.inBlock, Exit.then, Exit.noGoto_ret]
    go_ret
    exact ⟨rfl, hk.drewN _⟩
  · have hc' : E[3]'(by omega) = c := by rw [hc]; simp [h2]
    clear hc
    go_enter Tryd.func73, Tryd.ntmps73
    go_wp2_with (first | (go_at_call 81; with_reducible refine (hV _).mono ?_; rintro e w1 ⟨rfl, rfl⟩) | fail)
    go_step3
    go_wp2_with fail
    refine wp_loop_rounds 1 ?_
    rw [rounds_succ]
    go_wp2_with fail
    go_step3
    go_wp2_with fail
    go_quiet (fail)
    have hk := (Kept.refl (fun _ => False) w1).drewN nq
    generalize w1.drewN nq = w2 at hk ⊢
    go_wp2_with fail
    go_quiet ((go_at_call 74; exact Calls.quiet_of_same (HI.out _ _ _)))
    go_wp2_with fail
    simp only [Exit.inBlock, Exit.then, Exit.noGoto_ret]
    go_ret
    exact ⟨rfl, hk.drewN _⟩

/-- Whether a rune may stand in a name. -/
theorem index_sign9 : ∀ b : UInt8, decide (0 ≤ Lib.indexByte signs9.data.toList b) = (decide (b.toNat = 46) || decide (b.toNat = 95) || decide (b.toNat = 43) || decide (b.toNat = 45) || decide (b.toNat = 47) || decide (b.toNat = 58) || decide (b.toNat = 64) || decide (b.toNat = 126) || decide (b.toNat = 94)) := by
  intro b
  have key : ((List.range 256).all fun n => decide (0 ≤ Lib.indexByte signs9.data.toList (UInt8.ofNat n)) == (decide (n = 46) || decide (n = 95) || decide (n = 43) || decide (n = 45) || decide (n = 47) || decide (n = 58) || decide (n = 64) || decide (n = 126) || decide (n = 94))) = true := by kernel_rfl
  have h := List.all_eq_true.1 key b.toNat (List.mem_range.2 (UInt8.toNat_lt b))
  have hb : UInt8.ofNat b.toNat = b := by simp
  rw [hb] at h
  simpa using h
theorem contains_low (b : UInt8) (hb : b.toNat < 128) (w : World) :
    Calls Tryd.prog 60 #[.string signs9, .int .i32 (b.toNat : Int)] w fun e w' => e = .returned (.bool (decide (0 ≤ Lib.indexByte signs9.data.toList b))) ∧ w' = w := by
  have hR := fun W => rune_low b hb W
  generalize Lib.indexByte signs9.data.toList b = ix at *
  go_enter Tryd.func60, Tryd.ntmps60
  go_wp2_with (go_at_call 73; with_reducible refine (hR _).mono ?_; rintro e w1 ⟨rfl, rfl⟩)
  go_ret
  exact ⟨rfl, rfl⟩
theorem contains_high (r : Int) (h0 : 128 ≤ r) (w : World) :
    Calls Tryd.prog 60 #[.string signs9, .int .i32 r] w fun e w' => e = .returned (.bool false) ∧ Kept (fun _ => False) w w' := by
  have hR : ∀ W, Calls Tryd.prog 73 #[.string signs9, .int .i32 r] W fun e w' => e = .returned (.int .i64 (-1)) ∧ Kept (fun _ => False) W w' := fun W => by
    by_cases he : r = 65533
    · subst he; exact rune_err W
    · cases hv : Lib.validRune r with
      | true => exact rune_high r h0 he hv W
      | false => exact rune_bad r h0 he hv W
  clear h0
  go_enter Tryd.func60, Tryd.ntmps60
  go_wp2_with (go_at_call 73; with_reducible refine (hR _).mono ?_; rintro e w1 ⟨rfl, hk⟩)
  go_ret
  exact ⟨rfl, hk⟩
set_option maxRecDepth 100000 in
theorem mayRune_low (b : UInt8) (hb : b.toNat < 128) (w : World) :
    Calls Tryd.prog 47 #[.int .i32 (b.toNat : Int)] w fun e w' => e = .returned (.bool (signD b)) ∧ w' = w := by
  by_cases c3 : (97 ≤ b.toNat ∧ b.toNat ≤ 122) ∨ (65 ≤ b.toNat ∧ b.toNat ≤ 90) ∨ (48 ≤ b.toNat ∧ b.toNat ≤ 57)
  · have fin := Lib.hid (show signD b = true by unfold signD okB; simp; omega)
    rcases c3 with ⟨a1, a2⟩ | ⟨a1, a2⟩ | ⟨a1, a2⟩
    all_goals
      go_enter Tryd.func47, Tryd.ntmps47
      go_wp2_with fail
      go_ret
      exact ⟨by rw [fin.out]; rfl, rfl⟩
  · have hI := fun W => contains_low b hb W
    have h1 := index_sign9 b
    have fin := Lib.hid (show signD b = decide (0 ≤ Lib.indexByte signs9.data.toList b) by
      rw [h1, Bool.eq_iff_iff]
      unfold signD okB
      simp
      omega)
    have hc : b.toNat < 48 ∨ (57 < b.toNat ∧ b.toNat < 65) ∨ (90 < b.toNat ∧ b.toNat < 97) ∨ 122 < b.toNat := by omega
    generalize Lib.indexByte signs9.data.toList b = ix at *
    clear h1 c3 hb
    rcases hc with hc | ⟨hc, hd⟩ | ⟨hc, hd⟩ | hc
    all_goals
      go_enter Tryd.func47, Tryd.ntmps47
      go_wp2_with (go_at_call 60; with_reducible refine (hI _).mono ?_; rintro e w1 ⟨rfl, rfl⟩)
      go_ret
      exact ⟨by rw [fin.out]; rfl, rfl⟩
set_option maxRecDepth 100000 in
theorem mayRune_high (r : Int) (h0 : 128 ≤ r) (w : World) :
    Calls Tryd.prog 47 #[.int .i32 r] w fun e w' => e = .returned (.bool false) ∧ Kept (fun _ => False) w w' := by
  have hI := fun W => contains_high r h0 W
  go_enter Tryd.func47, Tryd.ntmps47
  go_wp2_with (go_at_call 60; with_reducible refine (hI _).mono ?_; rintro e w1 ⟨rfl, hk⟩)
  go_ret
  exact ⟨rfl, hk⟩
end Go.Proofs.YtlpalepkomkngaaDoor
