/-
  Plain facts on memory: a block that is known whole; what a call leaves alone; a list of bytes as cells. Nothing of the program is named here. A text's bytes, a cut of a text, a cell of a row. Nothing of the program is named here but its types. Slices of strings. Nothing of the program is named here but its types. Rich dependencies in memory: what a value reads as. Nothing of the program is named here but its types. Plain facts on EVRs as the program has them. Nothing of the program is named here. Packages in memory: what a value reads as. Nothing of the program is named here but its types. The walks over the laws' own measure of layer 8: whether a rich dependency is more than a statement goes over. Packages as values: a record of what one reads as. Nothing of the program is named here but its types. Copies of rich dependencies in memory: which hold whatever becomes of older blocks. Nothing of the program is named here but its types. The walks over the document's counts of layer 8: how many parts, how deep. The walk over the document's part (layer 8). The walks over the document's Whole, and the word of a Kind (layer 8). A slice appended to a row of the call's own, where the slice may be nil. Nothing of the program is named here but its types. The walks over the document's words, and Words (layer 8). The walk over the document's Copy (layer 8). Conditions: as each theorem states.
-/
import Derived.WalkKit
import Derived.Lib.AppendStr
import Derived.Laws.NewBlocks
import Derived.Deep.Draws
import Derived.Maps.AppendAt
import Derived.Lib.BufferRead
import Derived.Handy
import Derived.Lib.Hide
import Derived.Test.YtpdoeapjdifmbaaGreatDoorK01
import Derived.Test.YtpdoeapjdifmbaaGreatDoorRows
import Derived.LoopN
import Derived.Deep.QuietTactic
import Derived.Deep.RegionLaw
namespace Go.Proofs.YtpdoeapjdifmbaaGreatDoor
open Go.RowKit

/-- Block g holds just these cells, of element type t, none of them frozen. -/
def Box (w : World) (g : Nat) (t : TypeId) (cs : Array Value) : Prop := w.heap[g]? = some (.cells cs t (0, 0))

section
variable {w w' : World} {g g' : Nat} {t t' : TypeId} {cs cs' : Array Value}
theorem Box.lt (h : Box w g t cs) : g < w.heap.size := by
  by_cases hlt : g < w.heap.size
  · exact hlt
  · exfalso
    have hn : w.heap[g]? = none := Array.getElem?_eq_none (by omega)
    unfold Box at h
    rw [hn] at h
    cases h
theorem Box.cell (h : Box w g t cs) (i : Nat) : w.cell? ⟨g, i, none⟩ = cs[i]? := cell_of_row w g i cs t (0, 0) h
theorem Box.free (h : Box w g t cs) (i : Nat) : w.frozen? ⟨g, i, none⟩ = false := by unfold Box at h; simp [World.frozen?, h]
theorem Box.made (w : World) (t : TypeId) (cs : Array Value) : Box (w.alloc (.cells cs t)) w.heap.size t cs := heap_alloc_new w _
theorem Box.after_alloc (h : Box w g t cs) (o : Obj) : Box (w.alloc o) g t cs := (Below.heap_alloc w o g h.lt).trans h
theorem Box.stored (h : Box w g t cs) (i : Nat) (u : Value) : Box (w.setCell ⟨g, i, none⟩ u) g t (cs.setIfInBounds i u) := by
  unfold Box at h ⊢
  simp [World.setCell, Array.getElem?_modify, h]
theorem Box.apart (h : Box w g t cs) (h' : Box w g' t' cs') (hne : t ≠ t') : g ≠ g' := by
  intro e
  subst e
  have e2 : some (Obj.cells cs t (0, 0)) = some (Obj.cells cs' t' (0, 0)) := h.symm.trans h'
  injection e2 with e2
  injection e2 with _ e3
  exact hne e3
theorem Box.of_own_ne {base size n : Nat} {e : TypeId} {v : Value} {xs : List Value} (hg : Box w g t cs) (h : w.ownsRow base e size v n xs) (hne : e ≠ t) : ∀ i, v.ownBlock = some i → i ≠ g := by
  intro i hi
  rcases h.2 with ⟨hv, _⟩ | ⟨b, cap, cur, hv, _, hh, _⟩
  · subst hv; simp [Value.ownBlock] at hi
  · subst hv
    have hb : b = i := by simpa [Value.ownBlock] using hi
    subst hb
    exact Box.apart (t := e) hh hg hne
end

theorem own_form {w : World} {base size n : Nat} {e : TypeId} {v : Value} {xs : List Value} (h : w.ownsRow base e size v n xs) : ∃ a c, v = .slice a n c := by
  rcases h.2 with ⟨hv, hn⟩ | ⟨b, cap, cur, hv, _⟩
  · subst hn; exact ⟨none, 0, hv⟩
  · exact ⟨_, _, hv⟩

/-- Of the blocks that were there only those of S may have turned. -/
structure Kept (S : Nat → Prop) (w w' : World) : Prop where
  os : w'.os = w.os
  tape : w'.tape = w.tape
  output : w'.output = w.output
  size : w.heap.size ≤ w'.heap.size
  block : ∀ i, i < w.heap.size → ¬ S i → w'.heap[i]? = w.heap[i]?

section
variable {S T : Nat → Prop} {a w w' : World}
theorem Kept.refl (S : Nat → Prop) (w : World) : Kept S w w := ⟨rfl, rfl, rfl, Nat.le_refl _, fun _ _ _ => rfl⟩
theorem Kept.trans (h : Kept S a w) (k : Kept T w w') (hT : ∀ i, i < a.heap.size → T i → S i) : Kept S a w' :=
  ⟨k.os.trans h.os, k.tape.trans h.tape, k.output.trans h.output, Nat.le_trans h.size k.size,
    fun i hi hS => (k.block i (Nat.lt_of_lt_of_le hi h.size) (fun ht => hS (hT i hi ht))).trans (h.block i hi hS)⟩
theorem Kept.weaker (h : Kept S w w') (hT : ∀ i, i < w.heap.size → S i → T i) : Kept T w w' :=
  ⟨h.os, h.tape, h.output, h.size, fun i hi hS => h.block i hi (fun hs => hS (hT i hi hs))⟩
theorem Kept.alloc (h : Kept S a w) (o : Obj) : Kept S a (w.alloc o) :=
  ⟨h.os, h.tape, h.output, Nat.le_trans h.size (by simp), fun i hi hS => (Below.heap_alloc w o i (Nat.lt_of_lt_of_le hi h.size)).trans (h.block i hi hS)⟩
theorem Kept.drew (h : Kept S a w) : Kept S a w.drew := ⟨h.os, h.tape, h.output, h.size, h.block⟩
theorem Kept.drewN (h : Kept S a w) (n : Nat) : Kept S a (w.drewN n) := ⟨h.os, h.tape, h.output, h.size, h.block⟩
theorem Kept.setCell (h : Kept S a w) {p : Addr} (hp : S p.block ∨ a.heap.size ≤ p.block) (u : Value) : Kept S a (w.setCell p u) :=
  ⟨h.os, h.tape, h.output, by simpa [World.setCell] using h.size, fun i hi hS => (Below.heap_setCell w p u i (by
    intro e
    subst e
    rcases hp with hp | hp
    · exact hS hp
    · omega)).trans (h.block i hi hS)⟩
theorem Kept.grown {row : Option Nat} (h : Kept S a w) (hg : w.grownBy w' row) (hr : ∀ i, row = some i → S i ∨ a.heap.size ≤ i) : Kept S a w' :=
  ⟨hg.os.trans h.os, hg.tape.trans h.tape, hg.output.trans h.output, Nat.le_trans h.size hg.size,
    fun i hi hS => (hg.block i (Nat.lt_of_lt_of_le hi h.size) (fun e => by
      rcases hr i e.symm with hr | hr
      · exact hS hr
      · omega)).trans (h.block i hi hS)⟩
theorem Kept.of_below {B : Nat} (h : Below B w w') (hS : ∀ i, i < w.heap.size → B ≤ i → S i) : Kept S w w' :=
  ⟨h.os, h.tape, h.output, h.size, fun i hi hs => h.block i (by
    by_cases hb : i < B
    · exact hb
    · exact absurd (hS i hi (by omega)) hs)⟩
theorem Kept.below {B : Nat} (h : Kept S w w') (hB : B ≤ w.heap.size) (hS : ∀ i, S i → B ≤ i) : Below B w w' :=
  ⟨h.os, h.tape, h.output, h.size, fun i hi => h.block i (by omega) (fun hs => by have := hS i hs; omega)⟩
theorem Kept.box {g : Nat} {t : TypeId} {cs : Array Value} (h : Kept S w w') (hb : Box w g t cs) (hg : ¬ S g) : Box w' g t cs := (h.block g hb.lt hg).trans hb
theorem Kept.cell (h : Kept S w w') {p : Addr} (hp : p.block < w.heap.size) (hg : ¬ S p.block) : w'.cell? p = w.cell? p := World.cell?_of_block (h.block p.block hp hg)
end

theorem Kept.owns {S : Nat → Prop} {w w' : World} (h : Kept S w w') {base size n : Nat} {e : TypeId} {v : Value} {xs : List Value} (ho : w.ownsRow base e size v n xs) (hS : ∀ i, v.ownBlock = some i → ¬ S i) : w'.ownsRow base e size v n xs := by
  have hlt := ho.lt
  obtain ⟨h1, h2⟩ := ho
  refine ⟨h1, ?_⟩
  rcases h2 with h2 | ⟨b, cap, cur, e3, e4, e5, e6⟩
  · exact .inl h2
  · have hb : v.ownBlock = some b := by rw [e3]; rfl
    exact .inr ⟨b, cap, cur, e3, e4, (h.block b (hlt b hb).2 (hS b hb)).trans e5, e6⟩

section
variable {P : Program} (w : World)
end

end Go.Proofs.YtpdoeapjdifmbaaGreatDoor

namespace Go.Proofs.YtpdoeapjdifmbaaGreatDoor
open Go.RowKit

theorem char_at {s : ByteArray} {k : Nat} {b : UInt8} (h : k < s.size) (hb : b = s[k]) : s.data.toList[k]? = some b := by
  rw [hb, List.getElem?_eq_getElem (by simpa using h)]
  rfl
theorem extract_list (s : ByteArray) (a b : Nat) : s.extract a b = ⟨((s.data.toList.drop a).take (b - a)).toArray⟩ := by
  have := ByteArray.extract_mk s.data.toList a b
  simpa using this
theorem own_cell {w : World} {base n size : Nat} {e : TypeId} {g c : Nat} {xs : List Value} (h : w.ownsRow base e size (.slice (some ⟨g, 0, none⟩) n c) n xs) {j : Nat} {u : Value} (hj : xs[j]? = some u) : w.cell? ⟨g, j, none⟩ = some u ∧ g < w.heap.size := by
  obtain ⟨hl, h | ⟨g', cap, cur, e1, e2, e3, e4, e5, e6, e7⟩⟩ := h
  · exact absurd h.1 (by simp)
  · injection e1 with e1 _ _
    injection e1 with e1
    injection e1 with e1
    subst e1
    refine ⟨?_, (show Box w g e cur from e3).lt⟩
    rw [cell_of_row w g j cur e (0, 0) e3, ← Array.getElem?_toList]
    rw [← e7, List.getElem?_take] at hj
    split at hj
    · exact hj
    · simp at hj
end Go.Proofs.YtpdoeapjdifmbaaGreatDoor

namespace Go.Proofs.YtpdoeapjdifmbaaGreatDoor
open Go.RowKit

theorem add_block (a : Addr) (i : Nat) : (a.add i).block = a.block := by unfold Addr.add; split <;> rfl
/-- A slice of strings that reads as xs. -/
def StrS (w : World) (v : Value) (xs : List ByteArray) : Prop := ∃ ao cp, v = .slice ao xs.length cp ∧ ∀ j u, xs[j]? = some u → ∃ a : Addr, ao = some a ∧ w.cell? (a.add j) = some (.string u) ∧ a.block < w.heap.size
theorem StrS.kept {w w' : World} {v : Value} {xs : List ByteArray} (h : StrS w v xs) {S : Nat → Prop} (hk : Kept S w w') (hS : ∀ (a : Addr) n cp, v = .slice (some a) n cp → ¬ S a.block) : StrS w' v xs := by
  obtain ⟨ao, cp, hv, hc⟩ := h
  refine ⟨ao, cp, hv, fun j u hj => ?_⟩
  obtain ⟨a, ha, h1, h2⟩ := hc j u hj
  subst ha
  exact ⟨a, rfl, by rw [hk.cell (p := a.add j) (by rw [add_block]; exact h2) (by rw [add_block]; exact hS a _ _ hv)]; exact h1, Nat.lt_of_lt_of_le h2 hk.size⟩
def cellsS (l : List ByteArray) : List Value := l.map Value.string
theorem own_strs {w : World} {base : Nat} {e : TypeId} {v : Value} {l : List ByteArray} (h : w.ownsRow base e 1 v l.length (cellsS l)) : StrS w v l := by
  obtain ⟨a, cp, rfl⟩ := own_form h
  refine ⟨a, cp, rfl, fun j u hj => ?_⟩
  have hj' : (cellsS l)[j]? = some (.string u) := by simp [cellsS, hj]
  have hlt : j < l.length := (List.getElem?_eq_some_iff.1 hj).1
  rcases h.2 with ⟨_, h0⟩ | ⟨g, cap, cur, e1, _⟩
  · omega
  · injection e1 with e1 e2 e3
    subst e1
    have := own_cell h hj'
    refine ⟨_, rfl, ?_, this.2⟩
    have e : (⟨g, 0, none⟩ : Addr).add j = ⟨g, j, none⟩ := by
      unfold Addr.add
      cases j <;> simp
    rw [e]; exact this.1

/-- A slice of strings in new memory (or with nothing in it). -/
def NewS (base : Nat) (w : World) (v : Value) (xs : List ByteArray) : Prop := (xs = [] ∧ ∃ a c, v = .slice a 0 c) ∨ w.ownsRow base 9 1 v xs.length (cellsS xs)
section
variable {base : Nat} {w w' : World} {v : Value} {xs : List ByteArray}
theorem NewS.strs (h : NewS base w v xs) : StrS w v xs := by
  rcases h with ⟨rfl, a, c, rfl⟩ | h
  · exact ⟨a, c, rfl, fun j u hj => by simp at hj⟩
  · exact own_strs h
theorem NewS.kept {S : Nat → Prop} (h : NewS base w v xs) (hk : Kept S w w') (hS : ∀ i, v.ownBlock = some i → ¬ S i) : NewS base w' v xs := by
  rcases h with h | h
  · exact .inl h
  · exact .inr (hk.owns h hS)
end

end Go.Proofs.YtpdoeapjdifmbaaGreatDoor

namespace Go.Proofs.YtpdoeapjdifmbaaGreatDoor
open Go.RowKit
namespace Rich
open Ver Evr Span Dep Lex

abbrev richA (k : Nat) (d : D) (sl : Value) : Array Value := #[.int .u8 (k : Int), .string ⟨d.name.toArray⟩, .int .u8 (d.op : Int), .int .i64 d.evr.epoch, .string ⟨d.evr.ver.toArray⟩, .string ⟨d.evr.rel.toArray⟩, sl]
abbrev richV (k : Nat) (d : D) (sl : Value) : Value := .agg (richA k d sl)
mutual
/-- The value reads as this rich dependency. -/
def RichS (w : World) : R → Value → Prop
  | .mk k d l, v => ∃ ao cp, v = richV k d (.slice ao l.length cp) ∧ k < 256 ∧ d.op < 256 ∧ ArgS w ao 0 l
/-- What lies there from place i on reads as these. -/
def ArgS (w : World) (ao : Option Addr) : Nat → List R → Prop
  | _, [] => True
  | i, x :: l => (∃ b off v, ao = some ⟨b, off, none⟩ ∧ b < w.heap.size ∧ RichS w x v ∧ ∀ (j : Nat) u, v.cells.toList[j]? = some u → w.cell? ⟨b, off + i * 7 + j, none⟩ = some u) ∧ ArgS w ao (i + 1) l
end
mutual
theorem RichS.kept {w w' : World} (hk : Kept (fun _ => False) w w') : ∀ (x : R) (v : Value), RichS w x v → RichS w' x v
  | .mk k d l, v, h => by
    rw [RichS] at h ⊢
    obtain ⟨ao, cp, h1, h2, h3, h4⟩ := h
    exact ⟨ao, cp, h1, h2, h3, ArgS.kept hk ao 0 l h4⟩
theorem ArgS.kept {w w' : World} (hk : Kept (fun _ => False) w w') (ao : Option Addr) : ∀ (i : Nat) (l : List R), ArgS w ao i l → ArgS w' ao i l
  | _, [], _ => by rw [ArgS]; trivial
  | i, x :: l, h => by
    rw [ArgS] at h ⊢
    obtain ⟨⟨b, off, v, h1, h2, h3, h4⟩, h5⟩ := h
    exact ⟨⟨b, off, v, h1, Nat.lt_of_lt_of_le h2 hk.size, RichS.kept hk x v h3, fun j u hj => (hk.cell (p := ⟨b, off + i * 7 + j, none⟩) h2 (fun h => h)).trans (h4 j u hj)⟩, ArgS.kept hk ao (i + 1) l h5⟩
end
theorem ArgS.at {w : World} {ao : Option Addr} : ∀ {l : List R} {i0 i : Nat} {x : R}, ArgS w ao i0 l → l[i]? = some x → ∃ b off v, ao = some ⟨b, off, none⟩ ∧ b < w.heap.size ∧ RichS w x v ∧ ∀ (j : Nat) u, v.cells.toList[j]? = some u → w.cell? ⟨b, off + (i0 + i) * 7 + j, none⟩ = some u
  | [], _, _, _, _, h => by simp at h
  | y :: l, i0, i, x, hA, h => by
    rw [ArgS] at hA
    cases i with
    | zero =>
      simp at h
      subst h
      exact hA.1
    | succ i =>
      have := ArgS.at hA.2 (i := i) (by simpa using h)
      rw [show i0 + (i + 1) = i0 + 1 + i by omega]
      exact this
/-- Args, one by one. -/
theorem ArgS.of {w : World} {ao : Option Addr} : ∀ {l : List R} {i0 : Nat}, (∀ (i : Nat) x, l[i]? = some x → ∃ b off v, ao = some ⟨b, off, none⟩ ∧ b < w.heap.size ∧ RichS w x v ∧ ∀ (j : Nat) u, v.cells.toList[j]? = some u → w.cell? ⟨b, off + (i0 + i) * 7 + j, none⟩ = some u) → ArgS w ao i0 l
  | [], _, _ => by rw [ArgS]; trivial
  | y :: l, i0, h => by
    rw [ArgS]
    refine ⟨h 0 y rfl, ArgS.of fun i x hx => ?_⟩
    have := h (i + 1) x (by simpa using hx)
    rw [show i0 + 1 + i = i0 + (i + 1) by omega]
    exact this
/-- A part as it lies there: its value, and its seven cells. -/
theorem ArgS.part {w : World} {ao : Option Addr} {l : List R} {i : Nat} {x : R} (h : ArgS w ao 0 l) (hi : l[i]? = some x) :
    ∃ (b off : Nat) (ao' : Option Addr) (cp' : Nat), ao = some ⟨b, off, none⟩ ∧ b < w.heap.size ∧ RichS w x (richV x.kind x.dep (.slice ao' x.args.length cp')) ∧
      w.cell? ⟨b, off + i * 7, none⟩ = some (.int .u8 (x.kind : Int)) ∧ w.cell? ⟨b, off + i * 7 + 1, none⟩ = some (.string ⟨x.dep.name.toArray⟩) ∧ w.cell? ⟨b, off + i * 7 + 2, none⟩ = some (.int .u8 (x.dep.op : Int)) ∧
      w.cell? ⟨b, off + i * 7 + 3, none⟩ = some (.int .i64 x.dep.evr.epoch) ∧ w.cell? ⟨b, off + i * 7 + 4, none⟩ = some (.string ⟨x.dep.evr.ver.toArray⟩) ∧ w.cell? ⟨b, off + i * 7 + 5, none⟩ = some (.string ⟨x.dep.evr.rel.toArray⟩) ∧
      w.cell? ⟨b, off + i * 7 + 6, none⟩ = some (.slice ao' x.args.length cp') := by
  obtain ⟨b, off, v, h1, h2, h3, h4⟩ := ArgS.at h hi
  obtain ⟨k, d, l'⟩ := x
  have h3' := h3
  rw [RichS] at h3'
  obtain ⟨ao', cp', rfl, _⟩ := h3'
  rw [Nat.zero_add] at h4
  exact ⟨b, off, ao', cp', h1, h2, h3, h4 0 _ rfl, h4 1 _ rfl, h4 2 _ rfl, h4 3 _ rfl, h4 4 _ rfl, h4 5 _ rfl, h4 6 _ rfl⟩
/-- By its Args. -/
theorem R.ind {P : R → Prop} (h : ∀ k d l, (∀ y ∈ l, P y) → P (.mk k d l)) : ∀ x, P x := by
  have key : ∀ (n : Nat) (x : R), SizeOf.sizeOf x ≤ n → P x := by
    intro n
    induction n with
    | zero => intro x hx; cases x; simp at hx
    | succ n ih =>
      intro x hx
      obtain ⟨k, d, l⟩ := x
      refine h k d l fun y hy => ih y ?_
      have := List.sizeOf_lt_of_mem hy
      simp at hx
      omega
  exact fun x => key _ x (Nat.le_refl _)
theorem counts_take {l : List R} {i : Nat} {x : R} (h : l[i]? = some x) : counts (l.take (i + 1)) = counts (l.take i) + count x := by
  rw [List.take_add_one, h]
  have app : ∀ a b : List R, counts (a ++ b) = counts a + counts b := by
    intro a b
    induction a with
    | nil => rw [counts, List.nil_append, Nat.zero_add]
    | cons y a ih => rw [List.cons_append, counts, counts, ih]; omega
  rw [app]
  show _ + counts [x] = _
  rw [counts, counts]
  omega
theorem counts_take_le (l : List R) (i : Nat) : counts (l.take i) ≤ counts l := by
  have app : ∀ a b : List R, counts (a ++ b) = counts a + counts b := by
    intro a b
    induction a with
    | nil => rw [counts, List.nil_append, Nat.zero_add]
    | cons y a ih => rw [List.cons_append, counts, counts, ih]; omega
  have h := app (l.take i) (l.drop i)
  rw [List.take_append_drop] at h
  omega
theorem count_pos (x : R) : 1 ≤ count x := by cases x; rw [count]; omega
theorem counts_len : ∀ l : List R, l.length ≤ counts l
  | [] => by simp
  | x :: l => by
    rw [counts]
    have := counts_len l
    have := count_pos x
    simp only [List.length_cons]
    omega
end Rich
end Go.Proofs.YtpdoeapjdifmbaaGreatDoor

namespace Go.Proofs.YtpdoeapjdifmbaaGreatDoor
open Go.RowKit Ver Evr

def evrE (n : Int) (v r : ByteArray) : E := ⟨n, v.data.toList, r.data.toList⟩
theorem empty_text {r : ByteArray} : r.data.toList = [] ↔ r = ⟨#[]⟩ := by
  constructor
  · intro h
    cases r with
    | mk d =>
      have : d = #[] := by cases d; simp_all
      rw [this]
  · intro h; rw [h]
theorem text_ne {r : ByteArray} (h : r ≠ ⟨#[]⟩) : (r.toList == []) = false ∧ ¬ r.toList = [] := by
  have : ¬ r.toList = [] := by rw [ByteArray.toList_eq]; exact fun e => h (empty_text.1 e)
  exact ⟨beq_eq_false_iff_ne.2 this, this⟩
end Go.Proofs.YtpdoeapjdifmbaaGreatDoor

namespace Go.Proofs.YtpdoeapjdifmbaaGreatDoor
open Go.RowKit Ver Evr Span Rich

/-- A plain dependency, its texts as bytes. -/
structure De where
  nm : ByteArray
  o : Nat
  n : Int
  v : ByteArray
  r : ByteArray
abbrev deA (e : De) : Array Value := #[.string e.nm, .int .u8 (e.o : Int), .int .i64 e.n, .string e.v, .string e.r]
abbrev deV (e : De) : Value := .agg (deA e)
def DeOk (e : De) : Prop := e.nm.size ≤ 140737488355327 ∧ e.o < 256 ∧ e.v.size ≤ 140737488355327 ∧ e.r.size ≤ 140737488355327
/-- A slice of dependencies that reads as these. -/
def DesS (w : World) (v : Value) (l : List De) : Prop := ∃ ao cp, v = .slice ao l.length cp ∧ ∀ (i : Nat) e, l[i]? = some e → ∃ b off, ao = some ⟨b, off, none⟩ ∧ b < w.heap.size ∧ ∀ (j : Nat) u, (deA e)[j]? = some u → w.cell? ⟨b, off + i * 5 + j, none⟩ = some u
theorem DesS.kept {w w' : World} {v : Value} {l : List De} (h : DesS w v l) (hk : Kept (fun _ => False) w w') : DesS w' v l := by
  obtain ⟨ao, cp, h1, h2⟩ := h
  refine ⟨ao, cp, h1, fun i e hi => ?_⟩
  obtain ⟨b, off, h3, h4, h5⟩ := h2 i e hi
  exact ⟨b, off, h3, Nat.lt_of_lt_of_le h4 hk.size, fun j u hj => (hk.cell (p := ⟨b, off + i * 5 + j, none⟩) h4 (fun h => h)).trans (h5 j u hj)⟩
theorem DesS.at {w : World} {ao : Option Addr} {n cp : Nat} {l : List De} (h : DesS w (.slice ao n cp) l) {i : Nat} {e : De} (hi : l[i]? = some e) :
    n = l.length ∧ ∃ b off, ao = some ⟨b, off, none⟩ ∧ b < w.heap.size ∧ w.cell? ⟨b, off + i * 5, none⟩ = some (.string e.nm) ∧ w.cell? ⟨b, off + i * 5 + 1, none⟩ = some (.int .u8 (e.o : Int)) ∧ w.cell? ⟨b, off + i * 5 + 2, none⟩ = some (.int .i64 e.n) ∧ w.cell? ⟨b, off + i * 5 + 3, none⟩ = some (.string e.v) ∧ w.cell? ⟨b, off + i * 5 + 4, none⟩ = some (.string e.r) := by
  obtain ⟨ao', cp', h1, h2⟩ := h
  injection h1 with e1 e2 e3
  subst e1
  obtain ⟨b, off, h3, h4, h5⟩ := h2 i e hi
  exact ⟨e2, b, off, h3, h4, h5 0 _ rfl, h5 1 _ rfl, h5 2 _ rfl, h5 3 _ rfl, h5 4 _ rfl⟩
theorem DesS.nil (w : World) : DesS w (.slice none 0 0) [] := ⟨none, 0, rfl, fun i e hi => by simp at hi⟩
def meetsB (a b : De) : Bool := decide (a.nm = b.nm) && meetO a.o b.o (cmpE (evrE a.n a.v a.r) (evrE b.n b.v b.r))
/-- Whether what has this name and this EVR is named. -/
def namedB (nm : ByteArray) (n : Int) (v r : ByteArray) (d : De) : Bool := meetsB ⟨nm, 2, n, v, r⟩ d
theorem eqB_yes (s : ByteArray) : (s.toList == s.toList) = true := by simp
theorem eqB_no {s t : ByteArray} (h : s ≠ t) : (s.toList == t.toList) = false := by
  rw [ByteArray.toList_eq, ByteArray.toList_eq]
  refine beq_eq_false_iff_ne.2 fun e => h ?_
  obtain ⟨s⟩ := s
  obtain ⟨t⟩ := t
  congr 1
  exact Array.ext' e
theorem any_get {α : Type} (f : α → Bool) (l : List α) (i : Nat) (x : α) (hx : l[i]? = some x) (h0 : (l.take i).any f = false) : (l.take (i + 1)).any f = f x := by
  rw [List.take_add_one, hx, List.any_append, h0]
  simp
end Go.Proofs.YtpdoeapjdifmbaaGreatDoor

namespace Go.Proofs.YtpdoeapjdifmbaaGreatDoor
open Go.RowKit Rich

mutual
/-- What much answers: how many parts, and whether they are more than a statement goes over. -/
def muchX : R → Nat → Nat × Bool
  | .mk _ d l, dp => if 20 < dp ∨ 100 < l.length ∨ 500 < d.name.length + d.evr.ver.length ∨ 500 < d.evr.rel.length then (0, true) else muchL l dp 1
def muchL : List R → Nat → Nat → Nat × Bool
  | [], _, n => (n, false)
  | x :: l, dp, n => if (muchX x (dp + 1)).2 = true ∨ 2000 < n + (muchX x (dp + 1)).1 then (0, true) else muchL l dp (n + (muchX x (dp + 1)).1)
end
mutual
/-- Each text, and each row, takes less than 2^47. -/
def fitsX : R → Prop
  | .mk _ d l => d.name.length < 140737488355328 ∧ d.evr.ver.length < 140737488355328 ∧ d.evr.rel.length < 140737488355328 ∧ l.length < 140737488355328 ∧ fitsL l
def fitsL : List R → Prop
  | [] => True
  | x :: l => fitsX x ∧ fitsL l
end
mutual
def smallX : R → Prop
  | .mk _ d l => d.name.length + d.evr.ver.length ≤ 500 ∧ d.evr.rel.length ≤ 500 ∧ l.length ≤ 100 ∧ smallL l
def smallL : List R → Prop
  | [] => True
  | x :: l => smallX x ∧ smallL l
end
theorem fitsL_mem : ∀ {l : List R} {x : R}, fitsL l → x ∈ l → fitsX x
  | y :: l, x, h, hx => by
    rw [fitsL] at h
    rcases List.mem_cons.1 hx with rfl | hx
    · exact h.1
    · exact fitsL_mem h.2 hx
mutual
theorem much_le : ∀ (x : R) (dp : Nat), (muchX x dp).1 ≤ 2000 ∧ ((muchX x dp).2 = false → (muchX x dp).1 = count x ∧ smallX x)
  | .mk k d l, dp => by
    rw [muchX]
    split
    · exact ⟨by simp, fun h => by simp at h⟩
    · rename_i hc
      obtain ⟨h1, h2⟩ := muchL_le l dp 1 (by omega)
      refine ⟨h1, fun h => ?_⟩
      obtain ⟨g1, g2⟩ := h2 h
      rw [count, smallX]
      exact ⟨by omega, by omega, by omega, by omega, g2⟩
theorem muchL_le : ∀ (l : List R) (dp n : Nat), n ≤ 2000 → (muchL l dp n).1 ≤ 2000 ∧ ((muchL l dp n).2 = false → (muchL l dp n).1 = n + counts l ∧ smallL l)
  | [], dp, n, hn => by rw [muchL, counts, smallL]; exact ⟨hn, fun _ => ⟨rfl, trivial⟩⟩
  | x :: l, dp, n, hn => by
    rw [muchL]
    split
    · exact ⟨by simp, fun h => by simp at h⟩
    · rename_i hc
      obtain ⟨h1, h2⟩ := much_le x (dp + 1)
      obtain ⟨g1, g2⟩ := muchL_le l dp (n + (muchX x (dp + 1)).1) (by omega)
      refine ⟨g1, fun h => ?_⟩
      obtain ⟨e1, e2⟩ := g2 h
      obtain ⟨f1, f2⟩ := h2 (by cases hb : (muchX x (dp + 1)).2 with | false => rfl | true => exact absurd (.inl hb) hc)
      rw [counts, smallL]
      exact ⟨by omega, f2, e2⟩
end
end Go.Proofs.YtpdoeapjdifmbaaGreatDoor

namespace Go.Proofs.YtpdoeapjdifmbaaGreatDoor
open Go.RowKit Ver Evr Span Rich

def fitsDe (e : De) : Prop := e.nm.size < 140737488355328 ∧ e.o < 256 ∧ e.v.size < 140737488355328 ∧ e.r.size < 140737488355328
/-- What a package reads as. -/
structure Pk where
  nm : ByteArray
  n : Int
  v : ByteArray
  r : ByteArray
  a : Nat
  vd : ByteArray
  pv : List De
  rq : List R
  cf : List R
  ob : List De
  rc : List R
  sp : List R
  sg : List R
  en : List R
  fi : List ByteArray
/-- A slice of rich dependencies that reads as these. -/
def RisS (w : World) (v : Value) (l : List R) : Prop := ∃ ao cp, v = .slice ao l.length cp ∧ ArgS w ao 0 l
theorem RisS.kept {w w' : World} {v : Value} {l : List R} (h : RisS w v l) (hk : Kept (fun _ => False) w w') : RisS w' v l := by
  obtain ⟨ao, cp, h1, h2⟩ := h
  exact ⟨ao, cp, h1, ArgS.kept hk ao 0 l h2⟩
theorem RisS.nil (w : World) : RisS w (.slice none 0 0) [] := ⟨none, 0, rfl, by rw [ArgS]; trivial⟩
theorem StrS.nil10 (w : World) : StrS w (.slice none 0 0) [] := ⟨none, 0, rfl, fun i e hi => by simp at hi⟩
/-- The slices of a package. -/
structure Sl where
  s4 : Value
  s5 : Value
  s6 : Value
  s7 : Value
  s8 : Value
  s9 : Value
  s10 : Value
  s11 : Value
  s12 : Value
abbrev pkA (p : Pk) (s : Sl) : Array Value := #[.string p.nm, .int .i64 p.n, .string p.v, .string p.r, .int .u8 (p.a : Int), .string p.vd, s.s4, s.s5, s.s6, s.s7, s.s8, s.s9, s.s10, s.s11, s.s12]
/-- What is nil has no room. -/
def NilOk (v : Value) : Prop := ∀ n c, v = .slice none n c → n = 0 ∧ c = 0
theorem NilOk.zero : NilOk (.slice none 0 0) := fun n c h => by injection h with _ h1 h2; exact ⟨h1.symm, h2.symm⟩
theorem NilOk.some (a : Addr) (n c : Nat) : NilOk (.slice (some a) n c) := fun _ _ h => by injection h with h _ _; cases h
/-- What lies in a package's slices. -/
structure PkIn (w : World) (p : Pk) (s : Sl) : Prop where
  pv : DesS w s.s4 p.pv
  rq : RisS w s.s5 p.rq
  cf : RisS w s.s6 p.cf
  ob : DesS w s.s7 p.ob
  rc : RisS w s.s8 p.rc
  sp : RisS w s.s9 p.sp
  sg : RisS w s.s10 p.sg
  en : RisS w s.s11 p.en
  fi : StrS w s.s12 p.fi
  k4 : NilOk s.s4
  k5 : NilOk s.s5
  k6 : NilOk s.s6
  k7 : NilOk s.s7
  k8 : NilOk s.s8
  k9 : NilOk s.s9
  k10 : NilOk s.s10
  k11 : NilOk s.s11
  k12 : NilOk s.s12
theorem PkIn.kept {w w' : World} {p : Pk} {s : Sl} (h : PkIn w p s) (hk : Kept (fun _ => False) w w') : PkIn w' p s :=
  ⟨h.pv.kept hk, h.rq.kept hk, h.cf.kept hk, h.ob.kept hk, h.rc.kept hk, h.sp.kept hk, h.sg.kept hk, h.en.kept hk, h.fi.kept hk (fun _ _ _ _ h => h), h.k4, h.k5, h.k6, h.k7, h.k8, h.k9, h.k10, h.k11, h.k12⟩
def fitsLs (l : List R) : Prop := l.length < 140737488355328 ∧ fitsL l
/-- Each text, and each row, takes less than 2^47. -/
structure PkFits (p : Pk) : Prop where
  nm : p.nm.size < 140737488355328
  v : p.v.size < 140737488355328
  r : p.r.size < 140737488355328
  a : p.a < 256
  vd : p.vd.size < 140737488355328
  pvl : p.pv.length < 140737488355328
  pv : ∀ e ∈ p.pv, fitsDe e
  obl : p.ob.length < 140737488355328
  ob : ∀ e ∈ p.ob, fitsDe e
  rq : fitsLs p.rq
  cf : fitsLs p.cf
  rc : fitsLs p.rc
  sp : fitsLs p.sp
  sg : fitsLs p.sg
  en : fitsLs p.en
  fil : p.fi.length < 140737488355328
  fi : ∀ u ∈ p.fi, u.size < 140737488355328
/-- The value reads as this package. -/
def PkS (w : World) (p : Pk) (v : Value) : Prop := ∃ s : Sl, v = .agg (pkA p s) ∧ PkIn w p s
end Go.Proofs.YtpdoeapjdifmbaaGreatDoor

namespace Go.Proofs.YtpdoeapjdifmbaaGreatDoor
open Go.RowKit
namespace Rich

/-- Reads so, whatever becomes of the blocks below base. -/
def RichN (base : Nat) (w : World) (x : R) (v : Value) : Prop := ∀ W, Kept (fun b => b < base) w W → RichS W x v
theorem RichN.here {base : Nat} {w : World} {x : R} {v : Value} (h : RichN base w x v) : RichS w x v := h w (Kept.refl _ _)
abbrev Pc := R × Option Addr × Nat
abbrev arrP (p : Pc) : Array Value := richA p.1.kind p.1.dep (.slice p.2.1 p.1.args.length p.2.2)
abbrev valP (p : Pc) : Value := .agg (arrP p)
def cellsP : List Pc → List Value
  | [] => []
  | p :: l => (arrP p).toList ++ cellsP l
theorem cellsP_app : ∀ a b : List Pc, cellsP (a ++ b) = cellsP a ++ cellsP b
  | [], _ => rfl
  | p :: a, b => by simp [cellsP, cellsP_app a b]
theorem cellsP_at : ∀ (l : List Pc) (i : Nat) (p : Pc), l[i]? = some p → ∀ (j : Nat) u, (arrP p).toList[j]? = some u → (cellsP l)[i * 7 + j]? = some u
  | [], _, _, h, _, _, _ => by simp at h
  | e :: l, 0, p, h, j, u, hu => by
    injection h with h
    subst h
    have hj : j < (arrP e).toList.length := (List.getElem?_eq_some_iff.1 hu).1
    rw [cellsP, Nat.zero_mul, Nat.zero_add, List.getElem?_append_left hj]
    exact hu
  | e :: l, i + 1, p, h, j, u, hu => by
    have := cellsP_at l i p (by simpa using h) j u hu
    have e0 : (i + 1) * 7 + j = (arrP e).toList.length + (i * 7 + j) := by simp; omega
    rw [cellsP, e0, List.getElem?_append_right (by omega), Nat.add_sub_cancel_left]
    exact this
/-- A part that was copied: it holds whatever becomes of what lies below its world, and what came of the world since is of that sort. -/
def Done8 (B : Nat) (vt : Value) (wr : World) (p : Pc) : Prop := ∃ wj bj, B ≤ bj ∧ RichN bj wj p.1 (valP p) ∧ Kept (fun b => b < bj) wj wr ∧ ∀ g, vt.ownBlock = some g → g < bj ∨ wj.heap.size ≤ g
theorem Done8.step {B o : Nat} {vt vt' : Value} {wr w' : World} {p : Pc} (h : Done8 B vt wr p) (hk : Kept (fun b => vt.ownBlock = some b ∨ b = o) wr w') (ho : o < B) (hv : vt'.ownBlock = vt.ownBlock ∨ ∃ n, wr.heap.size ≤ n ∧ vt'.ownBlock = some n) : Done8 B vt' w' p := by
  obtain ⟨wj, bj, h1, h2, h3, h4⟩ := h
  refine ⟨wj, bj, h1, h2, h3.trans hk fun i hi hs => ?_, fun g hg => ?_⟩
  · rcases hs with hs | hs
    · rcases h4 i hs with h | h
      · exact h
      · omega
    · omega
  · rcases hv with hv | ⟨n, hn, hv⟩
    · exact h4 g (by rw [← hv]; exact hg)
    · rw [hv] at hg
      injection hg with hg
      have := h3.size
      omega
/-- A row of copied parts reads as the whole. -/
theorem rich_made {B w0 k : Nat} {d : Dep.D} {l : List R} {ps : List Pc} {vt : Value} {wr : World} {e : TypeId} (hB : w0 ≤ B) (hk : k < 256) (hd : d.op < 256) (hp : ps.map Prod.fst = l) (ho : wr.ownsRow B e 7 vt l.length (cellsP ps)) (hD : ∀ p ∈ ps, Done8 B vt wr p) :
    RichN w0 wr (.mk k d l) (richV k d vt) := by
  intro W hW
  have hl : ps.length = l.length := by rw [← hp]; simp
  have ho' := hW.owns ho (fun i hi h => by have := (ho.lt i hi).1; omega)
  rw [RichS]
  rcases ho'.2 with ⟨hv, hn⟩ | ⟨g, cap, cur, rfl, hg, hh, _⟩
  · have : l = [] := List.eq_nil_of_length_eq_zero hn
    subst this
    exact ⟨none, 0, by rw [hv]; rfl, hk, hd, by rw [ArgS]; trivial⟩
  · refine ⟨some ⟨g, 0, none⟩, cap, rfl, hk, hd, ArgS.of fun i x hx => ?_⟩
    rw [← hp, List.getElem?_map] at hx
    obtain ⟨p, h1, rfl⟩ := Option.map_eq_some_iff.1 hx
    obtain ⟨wj, bj, g1, g2, g3, _⟩ := hD p (List.mem_of_getElem? h1)
    have hc := cellsP_at ps i p h1
    refine ⟨g, 0, valP p, rfl, ?_, g2 W (g3.trans hW fun i _ h => by omega), fun j u hj => ?_⟩
    · have := Array.getElem?_eq_some_iff.1 hh
      exact this.1
    · have := (own_cell ho' (hc j u hj)).1
      rw [show 0 + (0 + i) * 7 + j = i * 7 + j by omega]
      exact this
end Rich
end Go.Proofs.YtpdoeapjdifmbaaGreatDoor

namespace Go.Proofs.YtpdoeapjdifmbaaGreatDoor
open Go.RowKit Rich

end Go.Proofs.YtpdoeapjdifmbaaGreatDoor

namespace Go.Proofs.YtpdoeapjdifmbaaGreatDoor
open Go.RowKit Rich

end Go.Proofs.YtpdoeapjdifmbaaGreatDoor

namespace Go.Proofs.YtpdoeapjdifmbaaGreatDoor
open Go.RowKit Rich

end Go.Proofs.YtpdoeapjdifmbaaGreatDoor

namespace Go.Proofs.YtpdoeapjdifmbaaGreatDoor
open Go.RowKit

section
variable {P : Program} {w : World}
/-- append of a row of the call's own and a slice that reads as news, nil where that is empty. -/
theorem run_append_src (base : Nat) (t ty e : TypeId) (i : TypeInfo) (z : Value) (size bytes : Nat) (ht : P.underlying t = some (.slice e)) (hi : P.info? e = some i) (hz : i.zero = some z)
    (hsize : i.size = size) (hby : i.bytes = bytes) (hzs : z.cells.size = size) (hsz : 0 < size)
    (v : Value) (n : Nat) (xs : List Value) (hown : w.ownsRow base e size v n xs)
    (ao : Option Addr) (m c : Nat) (news : List Value) (hnil : ao = none → m = 0 ∧ c = 0) (hl : news.length = m * size) (hnews : ∀ j u, news[j]? = some u → ∃ ad, ao = some ad ∧ w.cell? (ad.add j) = some u) (h1 : ∀ u ∈ news, u.oneCell' = true)
    (h63 : n + m ≤ maxLen) (hbytes : (n + m) * bytes ≤ 140737488355328) (hbase : base ≤ w.heap.size) :
    ∃ v' w', (Builtin.append_ #[t, t] ty #[v, .slice ao m c]).run P w = .ok v' w' ∧ w'.ownsRow base e size v' (n + m) (xs ++ news) ∧ w.grownBy w' v.ownBlock ∧ (v'.ownBlock = v.ownBlock ∨ v'.ownBlock = some w.heap.size) := by
  cases ao with
  | some ad =>
    obtain ⟨v', w', hr, h2, h3, _, h5⟩ := run_append_own_at (P := P) w base t ty e i z size bytes ht hi hz hsize hby hzs hsz v n xs hown ad m c news hl (fun j u hj => by
      obtain ⟨ad', e1, h⟩ := hnews j u hj
      injection e1 with e1
      subst e1
      exact h) h1 h63 hbytes hbase
    exact ⟨v', w', hr, h2, h3, h5⟩
  | none =>
    obtain ⟨rfl, rfl⟩ := hnil rfl
    have hn : news = [] := List.eq_nil_of_length_eq_zero (by simpa using hl)
    subst hn
    refine ⟨v, w, run_append_owned_none (P := P) (w := w) base t ty e i size ht hi v n xs hown, by simpa using hown, World.grownBy.refl _ _, .inl rfl⟩
end

theorem info_str : (Tryz.prog.info? 9).map (fun i => (i.zero, i.size, i.bytes)) = some (some (.string ⟨#[]⟩), 1, 16) := by kernel_rfl
theorem cellsS_one (a : List ByteArray) : ∀ u ∈ cellsS a, u.oneCell' = true := by
  intro u hu
  obtain ⟨_, _, rfl⟩ := List.mem_map.1 hu
  rfl
theorem wpList_append_src {P : Program} {w : World} {ops : Array Oper} {rest : List Oper} {o : Oper} {a : Act} {Q : Exit → Act → World → Prop} (hgd : o.guard = none) (s x : Operand) (t : TypeId)
    (ho : o.op = .call { callee := .builtin .append, args := #[s, x], argTypes := #[t, t] })
    (base : Nat) (e : TypeId) (i : TypeInfo) (z : Value) (size bytes : Nat) (ht : P.underlying t = some (.slice e)) (hi : P.info? e = some i) (hz : i.zero = some z)
    (hsize : i.size = size) (hby : i.bytes = bytes) (hzs : z.cells.size = size) (hsz : 0 < size)
    (v : Value) (n : Nat) (xs : List Value) (hs : a.eval s = v) (hown : w.ownsRow base e size v n xs)
    (ao : Option Addr) (m c : Nat) (news : List Value) (hx : a.eval x = .slice ao m c) (hnil : ao = none → m = 0 ∧ c = 0) (hl : news.length = m * size) (hnews : ∀ j u, news[j]? = some u → ∃ ad, ao = some ad ∧ w.cell? (ad.add j) = some u) (h1 : ∀ u ∈ news, u.oneCell' = true)
    (h63 : n + m ≤ maxLen) (hbytes : (n + m) * bytes ≤ 140737488355328) (hbase : base ≤ w.heap.size)
    (h : ∀ v' w', w'.ownsRow base e size v' (n + m) (xs ++ news) → w.grownBy w' v.ownBlock → (v'.ownBlock = v.ownBlock ∨ v'.ownBlock = some w.heap.size) → wpList P ops Q rest (a.put o.dst v') w') :
    wpList P ops Q (o :: rest) a w := by
  refine wpList_plain hgd fun K hK => ?_
  obtain ⟨v', w', hr, h2, h3, h4⟩ := run_append_src (P := P) (w := w) base t o.type e i z size bytes ht hi hz hsize hby hzs hsz v n xs hown ao m c news hnil hl hnews h1 h63 hbytes hbase
  unfold Oper.wp execOp
  simp only [ho, resolve, invoke, builtin, Sem.run_bind, Sem.run_pure, Result.andThen_ok, List.map_toArray, List.map_cons, List.map_nil, hs, hx, hr]
  exact hK _ _ (h v' w' h2 h3 h4)

end Go.Proofs.YtpdoeapjdifmbaaGreatDoor

namespace Go.Proofs.YtpdoeapjdifmbaaGreatDoor
open Go.RowKit Rich
open Dep (wordsD)

theorem box_grown8 {w w1 : World} {g base n size : Nat} {e t : TypeId} {v : Value} {xs : List Value} {cs : Array Value} (hb : Box w g t cs) (ho : w.ownsRow base e size v n xs) (hg : w.grownBy w1 v.ownBlock) (hlt : g < base) : Box w1 g t cs :=
  (hg.block g hb.lt (fun e => by have := (ho.lt g e.symm).1; omega)).trans hb
mutual
theorem wordsR_len : ∀ x : R, Rich.part x = true → (wordsR x).length + 1 ≤ 4 * count x
  | .mk k d l, h => by
    rw [count]
    by_cases hk : k = 1
    · subst hk
      rw [wordsR, if_pos rfl]
      by_cases h0 : d.op = 0
      · rw [wordsD_any h0]; simp; omega
      · rw [wordsD_op h0]; simp; omega
    · rw [Rich.part, if_neg hk, Bool.and_eq_true, Bool.and_eq_true] at h
      have := wordsL_len l h.1.2 k 0
      rw [wordsR, if_neg hk]
      simp only [List.length_cons, List.length_append, List.length_nil]
      omega
theorem wordsL_len : ∀ l : List R, allP l = true → ∀ k i, (wordsL k i l).length ≤ 4 * counts l
  | [], _, k, i => by rw [wordsL, counts]; simp
  | x :: l, h, k, i => by
    rw [allP, Bool.and_eq_true] at h
    have h1 := wordsR_len x h.1
    have h2 := wordsL_len l h.2 k (i + 1)
    have h3 : (sepL k i).length ≤ 1 := by unfold sepL; split <;> simp
    rw [wordsL, counts]
    simp only [List.length_append]
    omega
end
end Go.Proofs.YtpdoeapjdifmbaaGreatDoor

namespace Go.Proofs.YtpdoeapjdifmbaaGreatDoor
open Go.RowKit Rich

theorem info_rich8 : (Tryz.prog.info? 62).map (fun i => (i.zero, i.size, i.bytes)) = some (some (.agg #[.int .u8 0, .string ⟨#[]⟩, .int .u8 0, .int .i64 0, .string ⟨#[]⟩, .string ⟨#[]⟩, .slice none 0 0]), 7, 96) := by kernel_rfl
theorem wp_append_own8 {P : Program} {w : World} {o : Oper} {a : Act} {K : Act → World → Prop} {Q : Exit → Act → World → Prop} (s x : Operand) (t : TypeId)
    (ho : o.op = .call { callee := .builtin .append, args := #[s, x], argTypes := #[t, t] })
    (base : Nat) (e : TypeId) (i : TypeInfo) (z : Value) (size bytes : Nat) (ht : P.underlying t = some (.slice e)) (hi : P.info? e = some i) (hz : i.zero = some z)
    (hsize : i.size = size) (hby : i.bytes = bytes) (hzs : z.cells.size = size) (hsz : 0 < size)
    (v : Value) (n : Nat) (xs : List Value) (hs : a.eval s = v) (hown : w.ownsRow base e size v n xs)
    (ad : Addr) (m c : Nat) (news : List Value) (hx : a.eval x = .slice (some ad) m c) (hl : news.length = m * size) (hnews : ∀ j u, news[j]? = some u → w.cell? (ad.add j) = some u) (h1 : ∀ u ∈ news, u.oneCell' = true)
    (h63 : n + m ≤ maxLen) (hbytes : (n + m) * bytes ≤ 140737488355328) (hbase : base ≤ w.heap.size)
    (h : ∀ v' w', w'.ownsRow base e size v' (n + m) (xs ++ news) → w.grownBy w' v.ownBlock → (v'.ownBlock = v.ownBlock ∨ v'.ownBlock = some w.heap.size) → K (a.put o.dst v') w') : o.wp P a w K Q := by
  obtain ⟨v', w', hr, h2, h3, _, h5⟩ := run_append_own_at (P := P) w base t o.type e i z size bytes ht hi hz hsize hby hzs hsz v n xs hown ad m c news hl hnews h1 h63 hbytes hbase
  unfold Oper.wp execOp
  simp only [ho, resolve, invoke, builtin, Sem.run_bind, Sem.run_pure, Result.andThen_ok, List.map_toArray, List.map_cons, List.map_nil, hs, hx, hr]
  exact h v' w' h2 h3 h5
theorem one_rich8 (W : World) (t : TypeId) (cs : Array Value) : ∀ (j : Nat) u, cs.toList[j]? = some u → (W.alloc (.cells cs t)).cell? ((⟨W.heap.size, 0, none⟩ : Addr).add j) = some u := by
  intro j u hj
  have h := (Box.made W t cs).cell j
  rw [show ((⟨W.heap.size, 0, none⟩ : Addr).add j) = ⟨W.heap.size, j, none⟩ by simp [Addr.add]; try omega, h]
  simpa using hj
theorem copy_result {fn : Func} {p : Tmp} (h : fn.results = #[.cell p 62]) (tmps : Array Value) (W : World) (g : Nat) (cs : Array Value) (hp : tmps.getD p undef = .pointer (some ⟨g, 0, none⟩)) (hB : Box W g 62 cs) (hs : cs.size = 7) :
    (results fn tmps).run Tryz.prog W = .ok (.agg cs) W :=
  results_cell_row h tmps W g 62 cs (0, 0) _ hp hB Tryz.underlying62 rfl (by rw [hs]; kernel_rfl)
end Go.Proofs.YtpdoeapjdifmbaaGreatDoor
