/-
  What slots, operations and the world are in a region that builds a one-element slice, appends it, and stores the slice. Nothing of the program is named here. Conditions: as each theorem states.
-/
import Derived.Test.YtpdoeapjdifmbaaGreatDoorK04
namespace Go.Proofs.YtpdoeapjdifmbaaGreatDoor
open Go.RowKit

/-- Slot ib: the one-element slice; ia: the grown one; the others literally. -/
def SB (ib ia g1 : Nat) (PA : World → Value → Prop) (tbl : List Value) (j : Nat) (w : World) (v : Value) : Prop :=
  if j = ib then v = .slice (some ⟨g1, 0, none⟩) 1 1 ∧ g1 < w.heap.size else if j = ia then PA w v else tbl[j]? = some v
def RB (ia iz : Nat) (Z : World → World → Prop) (i : Nat) (w w' : World) : Prop := if i = ia then w.heap.size ≤ w'.heap.size else if i = iz then Z w w' else w.grownBy w' none
def CB (ib ia iz : Nat) (W0 W1 : World) (u0 : Value) (FIN : World → Prop) (ls : Array Bool) (w : World) : Prop :=
  if ls.getD iz false = true then FIN w else if ls.getD ia false = true then W0.grownBy w u0.ownBlock else w = if ls.getD ib false = true then W1 else W0
theorem getD_set_self {ls : Array Bool} {i : Nat} (h : i < ls.size) : (ls.setIfInBounds i true).getD i false = true := by
  rw [Array.getD_eq_getD_getElem?, Array.getElem?_setIfInBounds_self_of_lt h]
  rfl
theorem grown_refl (w : World) (r : Option Nat) : w.grownBy w r := ⟨rfl, rfl, rfl, Nat.le_refl _, fun _ _ _ => rfl⟩
theorem grown_none {w w' : World} {r : Option Nat} (h : w.grownBy w' none) : w.grownBy w' r := ⟨h.os, h.tape, h.output, h.size, fun k hk _ => h.block k hk (by simp)⟩
section
variable {ib ia iz g1 : Nat} {PA : World → Value → Prop} {tbl : List Value} {j i : Nat} {w w' : World} {v : Value} {Z : World → World → Prop} {W0 W1 : World} {u0 : Value} {FIN : World → Prop} {ls : Array Bool}
theorem SB.lit (h : SB ib ia g1 PA tbl j w v) (h1 : j ≠ ib) (h2 : j ≠ ia) : tbl[j]? = some v := by
  unfold SB at h
  rwa [if_neg h1, if_neg h2] at h
theorem SB.mk (h : tbl[j]? = some v) (h1 : j ≠ ib) (h2 : j ≠ ia) : SB ib ia g1 PA tbl j w v := by
  unfold SB
  rwa [if_neg h1, if_neg h2]
theorem SB.one (h : SB ib ia g1 PA tbl ib w v) : v = .slice (some ⟨g1, 0, none⟩) 1 1 ∧ g1 < w.heap.size := by
  unfold SB at h
  rwa [if_pos rfl] at h
theorem SB.mkOne (h : v = .slice (some ⟨g1, 0, none⟩) 1 1) (h' : g1 < w.heap.size) : SB ib ia g1 PA tbl ib w v := by
  unfold SB
  rw [if_pos rfl]
  exact ⟨h, h'⟩
theorem SB.all (h : SB ib ia g1 PA tbl ia w v) (hne : ia ≠ ib) : PA w v := by
  unfold SB at h
  rwa [if_neg hne, if_pos rfl] at h
theorem SB.mkAll (h : PA w v) (hne : ia ≠ ib) : SB ib ia g1 PA tbl ia w v := by
  unfold SB
  rwa [if_neg hne, if_pos rfl]
theorem SB.stands (hP : ∀ w w' v, w.grownBy w' none → PA w v → PA w' v) (hZ : ∀ w w' v, Z w w' → PA w v → PA w' v) (hZs : ∀ w w', Z w w' → w.heap.size ≤ w'.heap.size) (hne : j ≠ i) (hR : RB ia iz Z i w w') (h : SB ib ia g1 PA tbl j w v) : SB ib ia g1 PA tbl j w' v := by
  unfold SB at h ⊢
  unfold RB at hR
  have hs : w.heap.size ≤ w'.heap.size := by
    split at hR
    · exact hR
    · split at hR
      · exact hZs _ _ hR
      · exact hR.size
  by_cases h1 : j = ib
  · rw [if_pos h1] at h ⊢
    exact ⟨h.1, Nat.lt_of_lt_of_le h.2 hs⟩
  · rw [if_neg h1] at h ⊢
    by_cases h2 : j = ia
    · rw [if_pos h2] at h ⊢
      rw [if_neg (fun e => hne (h2.trans e.symm))] at hR
      split at hR
      · exact hZ _ _ _ hR h
      · exact hP _ _ _ hR h
    · rw [if_neg h2] at h ⊢
      exact h
theorem RB.quiet (h : w.grownBy w' none) (h1 : i ≠ ia) (h2 : i ≠ iz) : RB ia iz Z i w w' := by
  unfold RB
  rwa [if_neg h1, if_neg h2]
theorem RB.all (h : w.heap.size ≤ w'.heap.size) : RB ia iz Z ia w w' := by
  unfold RB
  rwa [if_pos rfl]
theorem RB.last (h : Z w w') (hne : iz ≠ ia) : RB ia iz Z iz w w' := by
  unfold RB
  rwa [if_neg hne, if_pos rfl]
theorem CB.start {n : Nat} : CB ib ia iz W0 W1 u0 FIN (Array.replicate n false) W0 := by
  have h : ∀ k, (Array.replicate n false).getD k false = false := fun k => by
    rcases Nat.lt_or_ge k n with hj | hj
    · simp [hj]
    · simp [Nat.not_lt.2 hj]
  unfold CB
  rw [h, h, h, if_neg (by decide), if_neg (by decide), if_neg (by decide)]
theorem CB.keep (h : CB ib ia iz W0 W1 u0 FIN ls w) (h1 : i ≠ ib) (h2 : i ≠ ia) (h3 : i ≠ iz) : CB ib ia iz W0 W1 u0 FIN (ls.setIfInBounds i true) w := by
  unfold CB at h ⊢
  rwa [getD_set_ne false h1, getD_set_ne false h2, getD_set_ne false h3]
theorem CB.grown (h : CB ib ia iz W0 W1 u0 FIN ls w) (hz : ls.getD iz false = false) (h01 : W0.grownBy W1 none) : W0.grownBy w u0.ownBlock := by
  unfold CB at h
  rw [if_neg (by rw [hz]; decide)] at h
  split at h
  · exact h
  · rw [h]
    split
    · exact grown_none h01
    · exact grown_refl _ _
theorem CB.early (h : CB ib ia iz W0 W1 u0 FIN ls w) (hz : ls.getD iz false = false) (ha : ls.getD ia false = false) : w = W1 ∨ w = W0 := by
  unfold CB at h
  rw [if_neg (by rw [hz]; decide), if_neg (by rw [ha]; decide)] at h
  rw [h]
  split
  · exact .inl rfl
  · exact .inr rfl
theorem CB.build (h : CB ib ia iz W0 W1 u0 FIN ls w) (hz : ls.getD iz false = false) (ha : ls.getD ia false = false) (hb : ls.getD ib false = false) (hi : ib < ls.size) (h1 : ia ≠ ib) (h2 : iz ≠ ib) : w = W0 ∧ CB ib ia iz W0 W1 u0 FIN (ls.setIfInBounds ib true) W1 := by
  unfold CB at h ⊢
  rw [if_neg (by rw [hz]; decide), if_neg (by rw [ha]; decide), if_neg (by rw [hb]; decide)] at h
  rw [getD_set_ne false (Ne.symm h1), getD_set_ne false (Ne.symm h2), if_neg (by rw [hz]; decide), if_neg (by rw [ha]; decide), getD_set_self hi, if_pos rfl]
  exact ⟨h, rfl⟩
theorem CB.grow (hz : ls.getD iz false = false) (hi : ia < ls.size) (h1 : iz ≠ ia) (hg : W0.grownBy w u0.ownBlock) : CB ib ia iz W0 W1 u0 FIN (ls.setIfInBounds ia true) w := by
  unfold CB
  rw [getD_set_ne false (Ne.symm h1), if_neg (by rw [hz]; decide), getD_set_self hi, if_pos rfl]
  exact hg
theorem CB.last (hi : iz < ls.size) (hf : FIN w) : CB ib ia iz W0 W1 u0 FIN (ls.setIfInBounds iz true) w := by
  unfold CB
  rw [getD_set_self hi, if_pos rfl]
  exact hf
theorem CB.fin (h : CB ib ia iz W0 W1 u0 FIN ls w) (hz : ls.getD iz false = true) : FIN w := by
  unfold CB at h
  rwa [hz, if_pos rfl] at h
end
end Go.Proofs.YtpdoeapjdifmbaaGreatDoor
