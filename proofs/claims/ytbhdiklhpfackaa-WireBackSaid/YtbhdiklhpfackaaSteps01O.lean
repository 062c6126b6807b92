/-
  The steps that come in as an argument, opened. Conditions: as each theorem states.
-/
import Derived.Test.YtbhdiklhpfackaaSteps01
import Derived.Test.YtbhdiklhpfackaaOpen
namespace Go.Proofs.Ytbhdiklhpfackaa
open Go.ChangeShapes Go.WideShapes Go.Deep Go.RowKit

instance : Inhabited StepV := ⟨⟨0, 0, 0, ByteArray.empty, 0⟩⟩

theorem steps_open {H : Type} {enc : TypeId × Value → H} {W : World} {ts : List TypeId} {ds : List (DataW H)} {j : Nat} {v : Value} {d : DataW H} {p : List MemPlace} {r : Reach} {b0 : Nat}
    (hv : Value.okWide Try.prog W r b0 42 v) (h : DataW.Trod enc Try.prog W 0 (fun _ => true) true 42 v d p)
    (hz : (DataW.weightsEach Try.prog ts ds).all (· ≤ reachBytes) = true) (ht : ts[j]? = some 42) (hd : ds[j]? = some d) :
    ∃ (a : Option Addr) (len cap : Nat) (L : Nat → StepV), v = .slice a len cap ∧ len ≤ 9223372036854775807 ∧ StepsIn W W.heap.size a len L := by
  obtain ⟨a, len, cap, rfl⟩ := okWide_slice Try.underlying42 hv
  obtain ⟨fuel, hf⟩ := h
  obtain ⟨hm, hcase⟩ := open_recs Try.underlying42 Try.underlying48 (by kernel_rfl) (by kernel_rfl) (by decide) hf
  have hm' : len ≤ 9223372036854775807 := hm
  rcases hcase with hz0 | ⟨b, off, D, rest, pl, rfl, hb, hl, hx, hi⟩
  · subst hz0
    exact ⟨a, 0, cap, default, rfl, by omega, fun i hi => by omega⟩
  · simp only [Prod.mk.injEq] at hx
    obtain ⟨rfl, _⟩ := hx
    obtain ⟨L, hL⟩ := choose_lt (p := fun i (x : StepV) => x.At W b (off + i * 5)) (n := len) (fun i hil => by
      obtain ⟨n, V, Y, hD, hF⟩ := hi i hil
      obtain ⟨c0, t0⟩ := hF 0 _ rfl
      obtain ⟨c1, t1⟩ := hF 1 _ rfl
      obtain ⟨c2, t2⟩ := hF 2 _ rfl
      obtain ⟨c3, t3⟩ := hF 3 _ rfl
      obtain ⟨x0, e0, y0, w0⟩ := DataW.trod_int Try.underlying5 t0
      obtain ⟨x1, e1, y1, w1⟩ := DataW.trod_int Try.underlying3 t1
      obtain ⟨x2, e2, y2, w2⟩ := DataW.trod_int Try.underlying3 t2
      obtain ⟨x3, e3, y3, w3⟩ := DataW.trod_string Try.underlying9 t3
      injection e0 with e0 _
      injection e1 with e1 _
      injection e2 with e2 _
      injection e3 with e3 _
      rw [e0] at c0
      rw [e1] at c1
      rw [e2] at c2
      rw [e3] at c3
      have hs : x3.data.toList.length ≤ reachBytes := field_string (k := 3) hz ht hd Try.underlying42 Try.underlying48
        (parts := (List.range 5).map fun j => (Y j).1) (List.mem_map.2 ⟨i, List.mem_range.2 hil, hD⟩) (f := _) rfl (by simp [List.range_succ, y3])
      have b0 := bounds_u8 w0
      have b1 := bounds_i64 w1
      have b2 := bounds_i64 w2
      refine ⟨⟨x0, x1, x2, x3, 0⟩, ⟨⟨?_, ?_, ?_, ?_, ?_, ?_, ?_⟩, c0, c1, c2, c3⟩⟩
      · exact b0.1
      · exact b0.2
      · exact b1.1
      · exact b1.2
      · exact b2.1
      · exact b2.2
      · have : x3.data.toList.length = x3.size := rfl
        show x3.size ≤ 140737488355328
        unfold reachBytes at hs
        omega)
    exact ⟨_, len, cap, L, rfl, hm', fun i hil => ⟨b, off, rfl, hb, hL i hil⟩⟩
end Go.Proofs.Ytbhdiklhpfackaa
