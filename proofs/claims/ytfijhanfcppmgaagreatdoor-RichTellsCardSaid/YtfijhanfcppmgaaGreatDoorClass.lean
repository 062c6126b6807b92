/-
  A region that draws its order, walked once, where its calls make memory but leave the old blocks alone. Nothing of the program is named here. Conditions: as each theorem states.
-/
import Derived.Test.YtfijhanfcppmgaaGreatDoorK04
import Derived.Deep.QuietTactic
import Derived.BigQuiet
namespace Go.Proofs.YtfijhanfcppmgaaGreatDoor
open Go.RowKit

/-- The worlds in which all old blocks lie as they lay, told by a map onto them. -/
theorem class_of (w : World) : ∃ (T : Type) (F : T → World) (t0 : T), F t0 = w.drew ∧ (∀ t, Kept (fun _ => False) w (F t)) ∧ ∀ t w', Kept (fun _ => False) (F t) w' → ∃ t', w' = F t' :=
  ⟨{ w' // Kept (fun _ => False) w w' }, Subtype.val, ⟨w.drew, (Kept.refl _ w).drew⟩, rfl, fun t => t.2, fun t w' h => ⟨⟨w', t.2.trans h (fun _ _ h => h)⟩, rfl⟩⟩
theorem wp_region_class {P : Program} {id : Nat} {Q : Exit → Act → World → Prop} {a : Act} {w : World} {l : List Oper} {T : Type} (F : T → World) (t0 : T) (h0 : F t0 = w.drew) (hm : P.follows .mixedOrders = true) (hB : Region.lexB .any l.toArray = true)
    (h : wpQuiet P l.toArray (fun w' => ∃ n, w' = F n) (fun a' => ∀ w', (∃ n, w' = F n) → Q .normal a' w') l a) : (Code.region id l.toArray true).wp P Q a w :=
  wp_region_quiet (C := fun w' => ∃ n, w' = F n) hm hB ⟨t0, h0.symm⟩ (by simpa using h)
theorem class_call {P : Program} {f : FuncId} {args : Array Value} {T : Type} {F : T → World} {t : T} {v : Value} (hs : ∀ t w', Kept (fun _ => False) (F t) w' → ∃ t', w' = F t')
    (h : Calls P f args (F t) fun e w' => e = .returned v ∧ Kept (fun _ => False) (F t) w') : Calls P f args (F t) fun e w' => e = .returned v ∧ ∃ m, w' = F m :=
  h.mono fun _ _ ⟨he, hk⟩ => ⟨he, hs t _ hk⟩
end Go.Proofs.YtfijhanfcppmgaaGreatDoor
