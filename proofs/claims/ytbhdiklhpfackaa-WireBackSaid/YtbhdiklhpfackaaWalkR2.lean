/-
  The walks over package wire's reader: what its panic's recovery calls. Conditions: as each theorem states.
-/
import Derived.Test.YtbhdiklhpfackaaWalkR
import Derived.RegionTactic
import Derived.BigRegion
namespace Go.Proofs.Ytbhdiklhpfackaa
open Go.RowKit

theorem assert_nil (w : World) : (Instr.typeAssert .nilIface 20 51 true).run Try.prog w = .ok (.tuple #[.agg #[.int .i64 0, .int .i64 0], .bool false]) w := by kernel_rfl
theorem assert_own (x : Value) (w : World) : (Instr.typeAssert (.iface 51 x) 20 51 true).run Try.prog w = .ok (.tuple #[x, .bool true]) w := by kernel_rfl

set_option maxRecDepth 100000 in
theorem caught_nil (w : World) :
    Calls Try.prog 29 #[.nilIface] w fun e w' => e = .returned (.agg #[.int .i64 0, .int .i64 0]) ∧ Kept (fun _ => False) w w' := by
  have h1 := assert_nil
  have h2 := assert_own
  go_enter Try.func29, Try.ntmps29
  go_wp2
  go_returns
  exact ⟨rfl, ((Kept.refl _ _).alloc _).alloc _⟩

set_option maxRecDepth 100000 in
theorem caught_own (pl er : Int) (w : World) :
    Calls Try.prog 29 #[.iface 51 (.agg #[.int .i64 pl, .int .i64 er])] w fun e w' => e = .returned (.agg #[.int .i64 pl, .int .i64 er]) ∧ Kept (fun _ => False) w w' := by
  have h1 := assert_nil
  have h2 := assert_own
  go_enter Try.func29, Try.ntmps29
  go_wp2
  go_returns
  exact ⟨rfl, ((Kept.refl _ _).alloc _).alloc _⟩

set_option maxRecDepth 100000 in
theorem record_none (g : Nat) (pl : Int) (w : World) :
    Calls Try.prog 28 #[.pointer (some ⟨g, 0, none⟩), .agg #[.int .i64 pl, .int .i64 0]] w fun e w' => e = .returned (.tuple #[]) ∧ Kept (fun _ => False) w w' := by
  go_enter Try.func28, Try.ntmps28
  go_wp2
  go_end0
  exact ⟨rfl, (Kept.refl _ _).alloc _⟩

set_option maxRecDepth 100000 in
theorem record_some (B g d c p q : Nat) (s : ByteArray) (pl er k : Int) (w : World) (h : Rd B w g d c s p pl er) (hk : k ≠ 0) (hq : q ≤ s.size) :
    Calls Try.prog 28 #[.pointer (some ⟨g, 0, none⟩), .agg #[.int .i64 q, .int .i64 k]] w fun e w' => e = .returned (.tuple #[]) ∧ Rd B w' g d c s q q k ∧ Kept (fun i => i = g) w w' := by
  have hk1 : (k != 0) = true := by simp [hk]
  have hlt := h.box.lt
  have h1 := h.c1
  have h2 := h.c2
  have h3 := h.c3
  have f1 : w.frozen? ⟨g, 1, none⟩ = false := h.box.free 1
  have f2 : w.frozen? ⟨g, 2, none⟩ = false := h.box.free 2
  have f3 : w.frozen? ⟨g, 3, none⟩ = false := h.box.free 3
  go_enter Try.func28, Try.ntmps28
  go_wp2
  go_region
  go_wp2
  go_end0
  refine ⟨rfl, Rd.drew (Rd.alloc ?_ _), ((((((Kept.refl (fun i => i = g) w).setCell (p := ⟨g, 2, none⟩) (.inl rfl) _).setCell (p := ⟨g, 3, none⟩) (.inl rfl) _).setCell (p := ⟨g, 1, none⟩) (.inl rfl) _)).alloc _).drew⟩
  exact ((h.set (q := p) (pl' := q) (er' := er) h.inn (by simp)).set (q := p) (pl' := q) (er' := k) h.inn (by simp)).set (q := q) (pl' := q) (er' := k) hq (by simp)
end Go.Proofs.Ytbhdiklhpfackaa
