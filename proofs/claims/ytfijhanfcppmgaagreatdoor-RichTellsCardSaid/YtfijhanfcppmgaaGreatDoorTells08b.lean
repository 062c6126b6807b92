/-
  The document's Copy and Texts, as the law RichTells asks them. Conditions: as each theorem states.
-/
import Derived.Test.YtfijhanfcppmgaaGreatDoorTells08
import Derived.Test.YtfijhanfcppmgaaGreatDoorK20
import Derived.Test.YtfijhanfcppmgaaGreatDoorText6
namespace Go.Proofs.YtfijhanfcppmgaaGreatDoor
open Go.RowKit Rich

theorem copy_k8 (w0 : World) : CopyK8 w0 := fun x v W hr _ hc _ =>
  (copy8_walk x v W hr hc).mono fun _ _ ⟨⟨v', h1, h2, _⟩, h3⟩ => ⟨⟨v', h1, h2.here⟩, h3⟩
theorem texts_k8 (w0 : World) : TextsK8 w0 := fun va vb xs W hx ha hb _ => by
  have h := texts6_walk va vb xs xs W hx ha hb
  rw [decide_eq_true rfl] at h
  exact h
end Go.Proofs.YtfijhanfcppmgaaGreatDoor
