/-
  The walks over package wire's reader: Fail. Conditions: as each theorem states.
-/
import Derived.Test.YtbhdiklhpfackaaWalkEnd
namespace Go.Proofs.Ytbhdiklhpfackaa
open Go.RowKit

set_option maxRecDepth 100000 in
set_option maxHeartbeats 1000000 in
theorem failDefer_idle (pe : Nat) (v : Value) (w : World) (hc : w.cell? ⟨pe, 0, none⟩ = some v) :
    CallsD Try.prog 35 #[.pointer (some ⟨pe, 0, none⟩)] .returning w fun e u' w' => e = .returned (.tuple #[]) ∧ u' = .returning ∧ w'.cell? ⟨pe, 0, none⟩ = some v ∧ Kept (fun _ => False) w w' := by
  have hlt : pe < w.heap.size := World.block_lt_of_cell? w _ hc
  refine callsD_of_wpS Try.func35 rfl fun c₀ cs hu => ?_
  refine wpS_seq ?_
  refine wpS_region_seq (l := [0, 1, 2, 3]) rfl ?_
  refine seqS_step ?_
  refine stepS_nothing (i := 0) rfl rfl (w' := w) (by kernel_rfl) (by simp [recoverD, hu]) ?_
  refine seqS_step ?_
  refine stepS_calls (i := 1) rfl rfl (w' := w) (f := 29) (args := #[.nilIface]) (by kernel_rfl) ((caught_nil w).mono fun e w2 ⟨he, hk2⟩ => ⟨_, he, ?_⟩)
  have hsz2 := hk2.size
  have hc2 : w2.cell? ⟨pe, 0, none⟩ = some v := (hk2.cell (p := ⟨pe, 0, none⟩) hlt (fun x => x)).trans hc
  refine seqS_step ?_
  refine stepS_value (i := 2) rfl rfl (v := .pointer (some ⟨w2.heap.size, 0, none⟩)) (w' := w2.alloc (.cells #[.int .i64 0, .int .i64 0] 51)) (by simp [go_sem]) ?_
  refine seqS_step ?_
  refine stepS_skip (i := 3) rfl rfl (w' := w2.alloc (.cells #[.int .i64 0, .int .i64 0] 51)) (by simp [go_sem]) ?_
  refine seqS_end (thenS_normal ?_)
  refine wpS_seq ?_
  refine wpS_region_seq (l := [0, 1, 2]) rfl ?_
  refine seqS_step ?_
  refine stepS_value (i := 0) rfl rfl (v := .pointer (some ⟨w2.heap.size, 1, none⟩)) (w' := w2.alloc (.cells #[.int .i64 0, .int .i64 0] 51)) (by simp [go_sem]) ?_
  refine seqS_step ?_
  refine stepS_value (i := 1) rfl rfl (v := .int .i64 0) (w' := w2.alloc (.cells #[.int .i64 0, .int .i64 0] 51)) (by simp [go_sem]) ?_
  refine seqS_step ?_
  refine stepS_value (i := 2) rfl rfl (v := .bool false) (w' := w2.alloc (.cells #[.int .i64 0, .int .i64 0] 51)) (by simp [go_sem]) ?_
  refine seqS_end (thenS_normal ?_)
  refine wpS_cond (t := false) (by simp [go_sem]) ?_
  simp only [Bool.false_eq_true, if_false]
  refine wpS_of_wp (wp_skip ?_)
  refine ⟨rfl, .returning, by rw [← hu], .tuple #[], by simp [results, Try.results35], rfl, rfl, ?_, hk2.alloc _⟩
  rw [World.cell?_alloc_past _ _ _ (by omega)]
  exact hc2

set_option maxRecDepth 100000 in
set_option maxHeartbeats 1000000 in
theorem failDefer_own (pe : Nat) (q : Int) (k : Int) (older : List PanicEntry) (v : Value) (w : World) (hc : w.cell? ⟨pe, 0, none⟩ = some v) (hf : w.frozen? ⟨pe, 0, none⟩ = false) (hk : k ≠ 0) :
    CallsD Try.prog 35 #[.pointer (some ⟨pe, 0, none⟩)] (.panicking (faultV q k :: older)) w fun e u' w' =>
      e = .returned (.tuple #[]) ∧ u' = .panicking ({ faultV q k with recovered := true } :: older) ∧ w'.cell? ⟨pe, 0, none⟩ = some (.int .i64 k) ∧ Kept (fun i => i = pe) w w' := by
  have hlt : pe < w.heap.size := World.block_lt_of_cell? w _ hc
  refine callsD_of_wpS Try.func35 rfl fun c₀ cs hu => ?_
  refine wpS_seq ?_
  refine wpS_region_seq (l := [0, 1, 2, 3]) rfl ?_
  refine seqS_step ?_
  refine stepS_recovered (i := 0) rfl rfl (w' := w) (v := .iface 51 (.agg #[.int .i64 q, .int .i64 k])) (cs' := { c₀ with mode := .panicking ({ faultV q k with recovered := true } :: older) } :: cs) (by kernel_rfl) (by simp [recoverD, hu, faultV]) ?_
  refine seqS_step ?_
  refine stepS_calls (i := 1) rfl rfl (w' := w) (f := 29) (args := #[.iface 51 (.agg #[.int .i64 q, .int .i64 k])]) (by kernel_rfl) ((caught_own q k w).mono fun e w2 ⟨he, hk2⟩ => ⟨_, he, ?_⟩)
  have hsz2 := hk2.size
  have hc2 : w2.cell? ⟨pe, 0, none⟩ = some v := (hk2.cell (p := ⟨pe, 0, none⟩) hlt (fun x => x)).trans hc
  refine seqS_step ?_
  refine stepS_value (i := 2) rfl rfl (v := .pointer (some ⟨w2.heap.size, 0, none⟩)) (w' := w2.alloc (.cells #[.int .i64 0, .int .i64 0] 51)) (by simp [go_sem]) ?_
  refine seqS_step ?_
  refine stepS_skip (i := 3) rfl rfl (w' := w2.alloc (.cells #[.int .i64 q, .int .i64 k] 51)) (by simp [go_sem]) ?_
  refine seqS_end (thenS_normal ?_)
  refine wpS_seq ?_
  refine wpS_region_seq (l := [0, 1, 2]) rfl ?_
  refine seqS_step ?_
  refine stepS_value (i := 0) rfl rfl (v := .pointer (some ⟨w2.heap.size, 1, none⟩)) (w' := w2.alloc (.cells #[.int .i64 q, .int .i64 k] 51)) (by simp [go_sem]) ?_
  refine seqS_step ?_
  refine stepS_value (i := 1) rfl rfl (v := .int .i64 k) (w' := w2.alloc (.cells #[.int .i64 q, .int .i64 k] 51)) (by simp [go_sem]) ?_
  refine seqS_step ?_
  refine stepS_value (i := 2) rfl rfl (v := .bool true) (w' := w2.alloc (.cells #[.int .i64 q, .int .i64 k] 51)) (by simp [go_sem, hk]) ?_
  refine seqS_end (thenS_normal ?_)
  refine wpS_cond (t := true) (by simp [go_sem]) ?_
  simp only [if_true]
  refine wpS_region_seq (l := [0, 1, 2]) rfl ?_
  have hf2 : w2.frozen? ⟨pe, 0, none⟩ = false := (World.frozen?_of_block (hk2.block pe hlt (fun x => x))).trans hf
  have hc3 : (w2.alloc (.cells #[.int .i64 q, .int .i64 k] 51)).cell? ⟨pe, 0, none⟩ = some v := by rw [World.cell?_alloc_past _ _ _ (by omega)]; exact hc2
  have hf3 : (w2.alloc (.cells #[.int .i64 q, .int .i64 k] 51)).frozen? ⟨pe, 0, none⟩ = false := by rw [World.frozen?_of_block (Below.heap_alloc w2 _ pe (by omega))]; exact hf2
  refine seqS_step ?_
  refine stepS_value (i := 0) rfl rfl (v := .pointer (some ⟨w2.heap.size, 1, none⟩)) (w' := w2.alloc (.cells #[.int .i64 q, .int .i64 k] 51)) (by simp [go_sem]) ?_
  refine seqS_step ?_
  refine stepS_value (i := 1) rfl rfl (v := .int .i64 k) (w' := w2.alloc (.cells #[.int .i64 q, .int .i64 k] 51)) (by simp [go_sem]) ?_
  refine seqS_step ?_
  refine stepS_skip (i := 2) rfl rfl (w' := (w2.alloc (.cells #[.int .i64 q, .int .i64 k] 51)).setCell ⟨pe, 0, none⟩ (.int .i64 k)) (by simp [go_sem, hc3, hf3]) ?_
  refine seqS_end ⟨rfl, _, rfl, .tuple #[], by simp [results, Try.results35], rfl, rfl, ?_, ?_⟩
  · simp [go_sem, hc3]
  · exact (Kept.weaker (T := fun i => i = pe) (hk2.alloc _) (fun _ _ x => x.elim)).setCell (p := ⟨pe, 0, none⟩) (.inl rfl) _

set_option maxRecDepth 100000 in
set_option maxHeartbeats 1000000 in
theorem Fail_broken (B g d c p : Nat) (s : ByteArray) (k place e0 : Int) (w : World) (h : Rd B w g d c s p p k) (hk0 : k ≠ 0) :
    Calls Try.prog 16 #[.pointer (some ⟨g, 0, none⟩), .int .i64 place, .int .i64 e0] w fun e w' => e = .returned (.int .i64 k) ∧ Rd B w' g d c s p p k ∧ Kept (fun _ => False) w w' := by
  have hmf : ∀ (fn : Fn) (first cap : Array Value) (w : World), (Instr.makeFunc fn first cap).run Try.prog w = .ok (.func fn first cap) w := fun _ _ _ _ => rfl
  have hR := h.alloc (.cells #[.int .i64 0] 24)
  have hc1 := hR.c1
  have hc2 := hR.c2
  have hc3 := hR.c3
  have hlt := h.box.lt
  go_enter_defers Try.func16, Try.ntmps16
  go_wp2_with fail
  refine (sound_no g p k _ hc2 hc3 hk0).mono ?_
  rintro e w' ⟨rfl, rfl⟩
  go_wp2_with fail
  refine leaves_cons (f := 35) (args := #[.pointer (some ⟨w.heap.size, 0, none⟩)]) (by simp) (by simp [go_sem]) ?_
  refine (failDefer_own w.heap.size p k [] (.int .i64 0) _ (by simp [go_sem]) (by simp [go_sem]) hk0).mono ?_
  rintro e u' w2 ⟨rfl, rfl, hz, hk⟩
  have hk2 := ((Kept.refl (fun i => i = w.heap.size) w).alloc (.cells #[.int .i64 0] 24)).trans hk (fun _ _ x => x)
  exact ⟨.int .i64 k, by simp only [results, Try.results16]; simp [go_sem, hz], rfl, h.keep hk2 (by omega) (by have := h.lt; omega), hk2.weaker (fun i hi e => by omega)⟩

set_option maxRecDepth 100000 in
set_option maxHeartbeats 1000000 in
theorem Fail_bad (B g d c p : Nat) (s : ByteArray) (pl place e0 : Int) (w : World) (h : Rd B w g d c s p pl 0) (hbad : (p : Int) < place ∨ (0 ≤ place ∧ place ≤ p ∧ e0 = 0)) :
    Calls Try.prog 16 #[.pointer (some ⟨g, 0, none⟩), .int .i64 place, .int .i64 e0] w fun e w' => e = .returned (.int .i64 1) ∧ Rd B w' g d c s p pl 0 ∧ Kept (fun _ => False) w w' := by
  have hmf : ∀ (fn : Fn) (first cap : Array Value) (w : World), (Instr.makeFunc fn first cap).run Try.prog w = .ok (.func fn first cap) w := fun _ _ _ _ => rfl
  have hR := h.alloc (.cells #[.int .i64 0] 24)
  have hc1 := hR.c1
  have hc2 := hR.c2
  have hc3 := hR.c3
  have hlt := h.box.lt
  go_enter_defers Try.func16, Try.ntmps16
  go_wp2_with fail
  refine (sound_yes g _ hc3).mono ?_
  rintro e w' ⟨rfl, rfl⟩
  rcases hbad with hb | ⟨h0, h1, rfl⟩
  · have h0 : ¬ place < 0 := by omega
    go_wp2_with fail
    refine leaves_cons (f := 35) (args := #[.pointer (some ⟨w.heap.size, 0, none⟩)]) (by simp) (by simp [go_sem]) ?_
    refine (failDefer_own w.heap.size p 1 [] (.int .i64 0) _ (by simp [go_sem]) (by simp [go_sem]) (by omega)).mono ?_
    rintro e u' w2 ⟨rfl, rfl, hz, hk⟩
    have hk2 := ((Kept.refl (fun i => i = w.heap.size) w).alloc (.cells #[.int .i64 0] 24)).trans hk (fun _ _ x => x)
    exact ⟨.int .i64 1, by simp only [results, Try.results16]; simp [go_sem, hz], rfl, h.keep hk2 (by omega) (by have := h.lt; omega), hk2.weaker (fun i hi e => by omega)⟩
  · have h0' : ¬ place < 0 := by omega
    have h1' : ¬ (p : Int) < place := by omega
    go_wp2_with fail
    refine leaves_cons (f := 35) (args := #[.pointer (some ⟨w.heap.size, 0, none⟩)]) (by simp) (by simp [go_sem]) ?_
    refine (failDefer_own w.heap.size p 1 [] (.int .i64 0) _ (by simp [go_sem]) (by simp [go_sem]) (by omega)).mono ?_
    rintro e u' w2 ⟨rfl, rfl, hz, hk⟩
    have hk2 := ((Kept.refl (fun i => i = w.heap.size) w).alloc (.cells #[.int .i64 0] 24)).trans hk (fun _ _ x => x)
    exact ⟨.int .i64 1, by simp only [results, Try.results16]; simp [go_sem, hz], rfl, h.keep hk2 (by omega) (by have := h.lt; omega), hk2.weaker (fun i hi e => by omega)⟩

set_option maxRecDepth 100000 in
set_option maxHeartbeats 1000000 in
theorem Fail_ok (B g d c p q : Nat) (s : ByteArray) (pl e0 : Int) (w : World) (h : Rd B w g d c s p pl 0) (hq : q ≤ p) (he : e0 ≠ 0) :
    Calls Try.prog 16 #[.pointer (some ⟨g, 0, none⟩), .int .i64 q, .int .i64 e0] w fun e w' => e = .returned (.int .i64 e0) ∧ Rd B w' g d c s q q e0 ∧ Kept (fun i => i = g) w w' := by
  have hmf : ∀ (fn : Fn) (first cap : Array Value) (w : World), (Instr.makeFunc fn first cap).run Try.prog w = .ok (.func fn first cap) w := fun _ _ _ _ => rfl
  have hR := h.alloc (.cells #[.int .i64 0] 24)
  have hc1 := hR.c1
  have hc3 := hR.c3
  have hlt := h.box.lt
  have hinn := h.inn
  have he' : (e0 == 0) = false := by simp [he]
  go_enter_defers Try.func16, Try.ntmps16
  go_wp2_with fail
  refine (sound_yes g _ hc3).mono ?_
  rintro e w' ⟨rfl, rfl⟩
  go_wp2_with fail
  refine (record_some B g d c p q s pl 0 e0 _ hR he (by omega)).mono ?_
  rintro e w3 ⟨rfl, hR3, hK3⟩
  have hcr : w3.cell? ⟨w.heap.size, 0, none⟩ = some (.int .i64 0) := (hK3.cell (p := ⟨w.heap.size, 0, none⟩) (by simp) (fun e => by have e2 : w.heap.size = g := e; omega)).trans (by simp [go_sem])
  have hfr : w3.frozen? ⟨w.heap.size, 0, none⟩ = false := (World.frozen?_of_block (hK3.block w.heap.size (by simp) (fun e => by have e2 : w.heap.size = g := e; omega))).trans (by simp [go_sem])
  go_wp2_with fail
  refine leaves_cons (f := 35) (args := #[.pointer (some ⟨w.heap.size, 0, none⟩)]) (by simp) (by simp [go_sem]) ?_
  refine (failDefer_idle w.heap.size (.int .i64 e0) _ (by simp [go_sem, hcr])).mono ?_
  rintro e u' w2 ⟨rfl, rfl, hz, hk⟩
  have hk3 : Kept (fun i => i = w.heap.size) w3 (w3.setCell ⟨w.heap.size, 0, none⟩ (.int .i64 e0)) := (Kept.refl (fun i => i = w.heap.size) w3).setCell (p := ⟨w.heap.size, 0, none⟩) (.inl rfl) _
  have hk4 : Kept (fun i => i = g) w w3 := ((Kept.refl (fun i => i = g) w).alloc (.cells #[.int .i64 0] 24)).trans hK3 (fun _ _ x => x)
  have hk5 := hk3.trans hk (fun _ _ x => x.elim)
  exact ⟨.int .i64 e0, by simp only [results, Try.results16]; simp [go_sem, hz], rfl, hR3.keep hk5 (by omega) (by have := h.lt; omega), hk4.trans hk5 (fun i hi e => by omega)⟩
end Go.Proofs.Ytbhdiklhpfackaa
