/-
  The walks over the program's own text of layer 4: the map of the Ops' texts, and what is found in it. Conditions: as each theorem states.
-/
import Derived.Test.YtncononmlgmabaaDoorMathSpan
import Derived.Test.YtncononmlgmabaaDoorMem
import Derived.Test.YtncononmlgmabaaDoorRows
import Derived.Maps.RangeWalk
import Derived.Maps.OwnSet
import Derived.StringKeys
import Derived.Handy
import Derived.Lib.Hide
namespace Go.Proofs.YtncononmlgmabaaDoor
open Go.RowKit Go.Maps Span

/-- An entry of a map literal, laid. -/
theorem wpList_entry_own {H : Type} {P : Program} (w : World) {ops : Array Oper} {rest : List Oper} {o : Oper} {a : Act} {Q : Exit → Act → World → Prop}
    (hg : o.guard = none) (m x v : Operand) (t : TypeId) (hop : o.op = Op.insert t m x v)
    (k e : TypeId) (K : Keyed P k) (ht : P.underlying t = some (.map k e)) (R : Value → Option (DataW H × List MemPlace)) (b n : Nat) (D : DataW H)
    (hm : a.eval m = .map (some b)) (hown : w.ownsMap P k R b n D) (hn : n < maxLen) (key val : Value) (kl : Lit) (hx : a.eval x = key) (hv : a.eval v = val) (hkey : keyOf P k key = some kl)
    (d : DataW H) (ps : List MemPlace) (hval : R val = some (d, ps))
    (hK : ∀ w', w'.ownsMap P k R b (n + 1) (D.put kl d) → w.grownBy w' (some b) → wpList P ops Q rest (a.put o.dst undef) w') :
    wpList P ops Q (o :: rest) a w := by
  refine wpList_plain hg fun K2 hK2 => ?_
  obtain ⟨w2, hrun, h1, h2⟩ := hown.update K ht hn hkey hval
  unfold Oper.wp
  simp [execOp, hop, hm, hx, hv, hrun, Result.andThen]
  exact hK2 _ _ (hK w2 h1 h2)

theorem key_law : Keyed Tryd.prog 9 := string_keyed Tryd.underlying9
/-- The six texts, with their Ops. -/
def opsD : DataW Unit := .map [(.string [], .lit (.int .u8 0)), (.string [60], .lit (.int .u8 1)), (.string [60, 61], .lit (.int .u8 3)), (.string [61], .lit (.int .u8 2)), (.string [62], .lit (.int .u8 4)), (.string [62, 61], .lit (.int .u8 6))]
abbrev OpsAt (w : World) (b : Nat) : Prop := w.ownsMap Tryd.prog 9 (plainElem Tryd.prog 5) b 6 opsD
theorem ops_put : (((((((.map [] : DataW Unit).put (.string []) (.lit (.int .u8 0))).put (.string [60]) (.lit (.int .u8 1))).put (.string [61]) (.lit (.int .u8 2))).put (.string [62]) (.lit (.int .u8 4))).put (.string [60, 61]) (.lit (.int .u8 3))).put (.string [62, 61]) (.lit (.int .u8 6))) = opsD := by rfl
theorem key_of (l : ByteArray) (h : l.size ≤ maxLen) : keyOf Tryd.prog 9 (.string l) = some (.string l.data.toList) := Go.WideMaps.keyOf_string_mk Tryd.underlying9 h
theorem elem_of (n : Int) (h : (Lit.int .u8 n).wf = true) : plainElem (H := Unit) Tryd.prog 5 (.int .u8 n) = some (.lit (.int .u8 n), []) := plainElem_int Tryd.underlying5 h

set_option maxRecDepth 100000 in
theorem map_walk (w : World) : Calls Tryd.prog 54 #[] w fun e w' => e = .returned (.map (some w.heap.size)) ∧ OpsAt w' w.heap.size ∧ Kept (fun _ => False) w w' := by
  have hmm := @run_makeMap Tryd.prog
  have h0 := World.ownsMap_made (H := Unit) w Tryd.prog 9 (plainElem Tryd.prog 5)
  have hk0 := (Kept.refl (fun _ => False) w).alloc (.map #[] 0)
  have HO := Lib.hid h0
  have HK := Lib.hid hk0
  clear h0 hk0
  go_enter Tryd.func54, Tryd.ntmps54
  go_wp2_with (first
    | (refine wpList_entry_own _ rfl _ _ _ 82 rfl 9 5 key_law Tryd.underlying82 _ w.heap.size _ _ rfl HO.out (by decide) _ _ _ rfl rfl (key_of _ (by decide)) _ [] (elem_of _ (by decide)) ?_; intro w1 hown1 hg1; have HO := Lib.hid hown1; have HK := Lib.hid (Kept.grown HK.out hg1 (fun j hj => by cases hj; exact .inr (Nat.le_refl _))); clear hown1 hg1)
    | go_in)
  go_ret
  exact ⟨rfl, by have h := HO.out; rw [ops_put] at h; exact h, HK.out⟩
end Go.Proofs.YtncononmlgmabaaDoor
