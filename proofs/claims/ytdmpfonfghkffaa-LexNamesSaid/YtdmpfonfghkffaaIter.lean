/-
  What a round of a loop over an iterator may turn: some blocks, told by what lies below a bound; all other cells lie as they lay. Nothing of the program is named here. Conditions: as each theorem states.
-/
import Derived.Test.YtdmpfonfghkffaaMem
import Derived.RangeFuncNested
import Derived.RangeFuncBound
import Derived.RangeFuncCalls
import Derived.RangeFuncLeaves
import Derived.RangeFuncBox
namespace Go.Proofs.Ytdmpfonfghkffaa
open Go.RowKit

/-- Which blocks may turn hangs on what lies below n₀ alone. -/
def Mut (n₀ : Nat) (M : World → Nat → Prop) : Prop := ∀ W W' : World, (∀ k, k < n₀ → W'.heap[k]? = W.heap[k]?) → ∀ i, M W' i → M W i
/-- They are there. -/
def There (M : World → Nat → Prop) (W : World) : Prop := ∀ i, M W i → i < W.heap.size
/-- What a round keeps. -/
structure KpM (M : World → Nat → Prop) (W W' : World) : Prop where
  size : W.heap.size ≤ W'.heap.size
  cells : ∀ i o, W.heap[i]? = some o → o.isCells = true → ¬ M W i → W'.heap[i]? = some o
  turn : ∀ i, M W' i → M W i ∨ (W.heap.size ≤ i ∧ i < W'.heap.size)
section
variable {n₀ : Nat} {M : World → Nat → Prop} {A B C W W' w : World}
theorem KpM.refl (M : World → Nat → Prop) (W : World) : KpM M W W := ⟨Nat.le_refl _, fun _ _ h _ _ => h, fun _ h => .inl h⟩
theorem KpM.trans (h : KpM M A B) (k : KpM M B C) : KpM M A C :=
  ⟨Nat.le_trans h.size k.size,
   fun i o hi ho hm => k.cells i o (h.cells i o hi ho hm) ho (fun hb => by
     rcases h.turn i hb with hb | ⟨hb, _⟩
     · exact hm hb
     · have := (Array.getElem?_eq_some_iff.1 hi).1
       omega),
   fun i hi => by
     rcases k.turn i hi with hi | ⟨h1, h2⟩
     · rcases h.turn i hi with hi | ⟨h1, h2⟩
       · exact .inl hi
       · have := k.size
         exact .inr ⟨h1, by omega⟩
     · have := h.size
       exact .inr ⟨by omega, h2⟩⟩
theorem KpM.putObj (hM : Mut n₀ M) (hn : n₀ ≤ w.heap.size) (W : World) (l : Nat) (o o' : Obj) (hl : w.heap.size ≤ l) (h : W.heap[l]? = some o) (hc : o.isCells = false) (_ : o.isWalk = false) : KpM M W (W.putObj l o') := by
  have hg := grownBy_putObj' W l o'
  refine ⟨hg.size, fun i o2 hi ho _ => ?_, fun i hi => .inl (hM W _ (fun k hk => ?_) i hi)⟩
  · refine (hg.block i (Array.getElem?_eq_some_iff.1 hi).1 (fun e => ?_)).trans hi
    cases e
    rw [h] at hi
    cases hi
    rw [hc] at ho
    cases ho
  · have := (Array.getElem?_eq_some_iff.1 h).1
    exact hg.block k (by omega) (fun e => by cases e; omega)
theorem KpM.of_kept (hM : Mut n₀ M) (hn : n₀ ≤ W.heap.size) (h : Kept (fun _ => False) W W') : KpM M W W' :=
  ⟨h.size, fun i o hi _ _ => (h.block i (Array.getElem?_eq_some_iff.1 hi).1 (fun h => h)).trans hi,
   fun i hi => .inl (hM W W' (fun k hk => h.block k (by omega) (fun h => h)) i hi)⟩
theorem There.kept (h : There M W) (k : KpM M W W') : There M W' := fun i hi => by
  rcases k.turn i hi with hi | ⟨_, hi⟩
  · exact Nat.lt_of_lt_of_le (h i hi) k.size
  · exact hi
theorem KpM.box {g : Nat} {t : TypeId} {cs : Array Value} (k : KpM M W W') (h : Box W g t cs) (hg : ¬ M W g) : Box W' g t cs := k.cells g _ h rfl hg
theorem KpM.not (k : KpM M W W') {g : Nat} (h : g < W.heap.size) (hg : ¬ M W g) : ¬ M W' g := fun hh => by
  rcases k.turn g hh with hi | ⟨hi, _⟩
  · exact hg hi
  · omega
theorem Kept.grownNone (h : Kept (fun _ => False) W W') : W.grownBy W' none := ⟨h.os, h.tape, h.output, h.size, fun k hk _ => h.block k hk (fun h => h)⟩
theorem Kept.others (h : Kept (fun _ => False) W W') : KeepsOthers W W' := ⟨h.size, fun k _ hk _ => (h.block k (Array.getElem?_eq_some_iff.1 hk).1 (fun h => h)).trans hk⟩
/-- A block that is new is none of those that may turn. -/
theorem KpM.fresh (hM : Mut n₀ M) (hn : n₀ ≤ W.heap.size) (hT : There M W) (h : Kept (fun _ => False) W W') {g : Nat} (hg : W.heap.size ≤ g) : ¬ M W' g ∧ There M W' := by
  have k := KpM.of_kept hM hn h
  refine ⟨fun hh => ?_, hT.kept k⟩
  have := hT g (hM W W' (fun k hk => h.block k (by omega) (fun h => h)) g hh)
  omega
/-- fresh_box -/
theorem abides {β : Type} {J : β → World → Prop} {n : Nat} (hJ : AbidesFrom n J) {s : β} (hs : J s W) (h : Kept (fun _ => False) W W') : J s W' := hJ s W W' none hs h.grownNone (fun _ e => by cases e)
/-- Two named blocks, and no more. -/
theorem mut_const (n₀ : Nat) (S : Nat → Prop) : Mut n₀ (fun _ i => S i) := fun _ _ _ _ h => h
/-- A box that holds a slice, and what that owns. -/
def OwnB (B : Nat) (W : World) (i : Nat) : Prop := i = B ∨ ∃ v, W.cell? ⟨B, 0, none⟩ = some v ∧ v.ownBlock = some i
theorem mut_own {n₀ B : Nat} (h : B < n₀) : Mut n₀ (OwnB B) := fun W W' hk i hi => by
  rcases hi with hi | ⟨v, h1, h2⟩
  · exact .inl hi
  · exact .inr ⟨v, by rw [← h1]; exact (World.cell?_of_block (a := ⟨B, 0, none⟩) (hk B h)).symm, h2⟩
/-- An append onto what the box holds, stored there. -/
theorem KpM.appended {Bo : Nat} {t e : TypeId} {v v' : Value} {tmp : Obj} {w1 : World} {base size n : Nat} {xs : List Value} (hv : Boxed W Bo t v) (hg : (W.alloc tmp).grownBy w1 v.ownBlock)
    (hb : v'.ownBlock = v.ownBlock ∨ v'.ownBlock = some (W.alloc tmp).heap.size) (hr : w1.ownsRow base e size v' n xs) (hv1 : Boxed w1 Bo t v) : KpM (OwnB Bo) W (w1.setCell ⟨Bo, 0, none⟩ v') := by
  have hs1 := hg.size
  rw [World.size_alloc] at hs1
  have hss : (w1.setCell ⟨Bo, 0, none⟩ v').heap.size = w1.heap.size := by simp [World.setCell]
  have hnew := (hv1.set v').cell
  refine ⟨by omega, fun i o hi _ hm => ?_, fun i hi => ?_⟩
  · have hlt := (Array.getElem?_eq_some_iff.1 hi).1
    have hne : i ≠ Bo := fun e => hm (.inl e)
    have hno : some i ≠ v.ownBlock := fun e => hm (.inr ⟨v, hv.cell, e.symm⟩)
    refine (Below.heap_setCell w1 _ _ i (fun e => hne e)).trans ?_
    refine (hg.block i (by rw [World.size_alloc]; omega) hno).trans ?_
    exact (Below.heap_alloc W tmp i hlt).trans hi
  · rcases hi with hi | ⟨u, h1, h2⟩
    · exact .inl (.inl hi)
    · rw [hnew] at h1
      cases h1
      rcases hb with hb | hb
      · exact .inl (.inr ⟨v, hv.cell, by rw [← hb]; exact h2⟩)
      · right
        have h3 := (hr.lt i h2).2
        rw [hb, World.size_alloc] at h2
        cases h2
        omega
theorem kept_own {β : Type} {w : World} {B : Nat} (h : w.heap.size ≤ B) : OwnFrom B (fun (_ : β) W => Kept (fun _ => False) w W) := fun _ _ _ _ hs hg hr => hs.grown hg (fun i hi => .inr (Nat.le_trans h (hr i hi).1))
theorem box_own {β : Type} (B g : Nat) (t : TypeId) (f : β → Array Value) : OwnFrom B (fun s W => Box W g t (f s)) := fun s X Y row hs hg hr => by
  refine (hg.block g hs.lt (fun e => ?_)).trans hs
  obtain ⟨o, ho, hc⟩ := (hr g e.symm).2
  rw [show X.heap[g]? = _ from hs] at ho
  cases ho
  cases hc
end
end Go.Proofs.Ytdmpfonfghkffaa
