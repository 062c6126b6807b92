/-
  A builder of the call's own: what is written to it, as bytes; what stands beside it. Conditions: as each theorem states.
-/
import Derived.Test.YtdmpfonfghkffaaBld3
namespace Go.Proofs.Ytdmpfonfghkffaa
open Go.RowKit

theorem below_box {B g : Nat} {w w' : World} {t : TypeId} {cs : Array Value} (h : Below B w w') (hb : Box w g t cs) (hg : g < B) : Box w' g t cs := (h.block g hg).trans hb
theorem kept_past {S : Nat → Prop} {B : Nat} {a w w' : World} (h : Kept S a w) (k : Below B w w') (hB : a.heap.size ≤ B) : Kept S a w' :=
  ⟨k.os.trans h.os, k.tape.trans h.tape, k.output.trans h.output, Nat.le_trans h.size k.size, fun i hi hS => (k.block i (by omega)).trans (h.block i hi hS)⟩
theorem bld_kept {B b : Nat} {bs : List Value} {w w' : World} (h : Bld B b bs w) (k : Kept (fun _ => False) w w') : Bld B b bs w' := by
  have hg : w.grownBy w' none := ⟨k.os, k.tape, k.output, k.size, fun i hi _ => k.block i hi (fun h => h)⟩
  have one : ∀ p, Lib.BuilderAtF 47 5 B b p bs w → Lib.BuilderAtF 47 5 B b p bs w' := by
    intro p h
    have hlt := h.lt
    obtain ⟨hB, v, hb, hown, hne⟩ := h
    exact ⟨hB, v, (k.block b hlt (fun h => h)).trans hb, hown.kept hg (by cases hv : v.ownBlock <;> simp), hne⟩
  rcases h with h | h
  · exact .inl (one _ h)
  · exact .inr (one _ h)
theorem bw_text (B : Nat) (l : List UInt8) (s : ByteArray) (w : World) (h : Bld B B (Lib.byteCells l) w) (hl : l.length ≤ 1000000) (hs : s.size ≤ 1000000) (hB : B ≤ w.heap.size) :
    Calls Try.prog 19 #[.pointer (some ⟨B, 0, none⟩), .string s] w fun e w' => e = .returned (.tuple #[.int .i64 s.size, .nilIface]) ∧ Bld B B (Lib.byteCells (l ++ s.data.toList)) w' ∧ Below B w w' := by
  refine (wstring_walk B B (Lib.byteCells l) s w h (by rw [Lib.byteCells_length]; omega) hB).mono fun e w' ⟨h1, h2, h3⟩ => ⟨h1, ?_, h3⟩
  rw [Lib.byteCells_append]
  exact h2
theorem bw_byte (B : Nat) (l : List UInt8) (b : UInt8) (c : Int) (hc : c = (b.toNat : Int)) (w : World) (h : Bld B B (Lib.byteCells l) w) (hl : l.length ≤ 1000000) (hB : B ≤ w.heap.size) :
    Calls Try.prog 18 #[.pointer (some ⟨B, 0, none⟩), .int .u8 c] w fun e w' => e = .returned .nilIface ∧ Bld B B (Lib.byteCells (l ++ [b])) w' ∧ Below B w w' := by
  subst hc
  refine (wbyte_walk B B (Lib.byteCells l) (b.toNat : Int) w h (by rw [Lib.byteCells_length]; omega) hB).mono fun e w' ⟨h1, h2, h3⟩ => ⟨h1, ?_, h3⟩
  rw [Lib.byteCells_append]
  exact h2
end Go.Proofs.Ytdmpfonfghkffaa
