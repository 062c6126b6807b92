/-
  The walk over the document's Same (layer 8). The walk over the document's Same (layer 9). The walk over the program's Same (layer 9). Conditions: as each theorem states.
-/
import Derived.Test.YtpdoeapjdifmbaaGreatDoorK01
import Derived.Test.YtpdoeapjdifmbaaGreatDoorRows
import Derived.Handy
import Derived.Lib.Hide
import Derived.LoopN
import Derived.Deep.QuietTactic
import Derived.WalkKit
import Derived.Deep.RegionWith
import Derived.BigRegion
import Derived.Shelf.Abstract
namespace Go.Proofs.YtpdoeapjdifmbaaGreatDoor
open Go.RowKit Rich

mutual
def sameX : R → R → Bool
  | .mk k d l, .mk k' d' l' => decide (k = k') && sameD d d' && decide (l.length = l'.length) && sameL l l'
def sameL : List R → List R → Bool
  | x :: l, y :: l' => sameX x y && sameL l l'
  | _, _ => true
def sameD (d d' : Dep.D) : Bool := decide (d.name = d'.name) && decide (d.op = d'.op) && decide (d.evr.epoch = d'.evr.epoch) && decide (d.evr.ver = d'.evr.ver) && decide (d.evr.rel = d'.evr.rel)
end
theorem sameD_iff {d d' : Dep.D} : sameD d d' = true ↔ d = d' := by
  obtain ⟨n, o, ⟨e, v, r⟩⟩ := d
  obtain ⟨n', o', ⟨e', v', r'⟩⟩ := d'
  unfold sameD
  simp [and_assoc]
mutual
theorem sameX_iff : ∀ a b : R, sameX a b = true ↔ a = b
  | .mk k d l, .mk k' d' l' => by
    rw [sameX, Bool.and_eq_true, Bool.and_eq_true, Bool.and_eq_true, sameD_iff, decide_eq_true_eq, decide_eq_true_eq]
    constructor
    · rintro ⟨⟨⟨rfl, rfl⟩, h⟩, h2⟩
      rw [(sameL_iff l l' h).1 h2]
    · intro h
      injection h with h1 h2 h3
      subst h3
      exact ⟨⟨⟨h1, h2⟩, rfl⟩, (sameL_iff l l rfl).2 rfl⟩
theorem sameL_iff : ∀ l l' : List R, l.length = l'.length → (sameL l l' = true ↔ l = l')
  | [], [], _ => by rw [sameL]; simp; simp
  | x :: l, y :: l', h => by
    rw [sameL, Bool.and_eq_true, sameX_iff x y, sameL_iff l l' (by simpa using h)]
    simp
end
end Go.Proofs.YtpdoeapjdifmbaaGreatDoor

namespace Go.Proofs.YtpdoeapjdifmbaaGreatDoor
open Go.RowKit Rich

end Go.Proofs.YtpdoeapjdifmbaaGreatDoor

namespace Go.Proofs.YtpdoeapjdifmbaaGreatDoor
open Go.RowKit Rich

end Go.Proofs.YtpdoeapjdifmbaaGreatDoor
