/-
  The walks over package wire's reader: End, whose error is recorded. Conditions: as each theorem states.
-/
import Derived.Test.YtbhdiklhpfackaaWalkR5
namespace Go.Proofs.Ytbhdiklhpfackaa
open Go.RowKit

theorem thenS_normal {next : Act → List Frame → World → Prop} {Q : Exit → Act → List Frame → World → Prop} {a : Act} {cs : List Frame} {w : World} (h : next a cs w) : Exit.thenS next Q .normal a cs w := h

set_option maxRecDepth 100000 in
set_option maxHeartbeats 1000000 in
theorem endDefer_idle (pr pe g : Nat) (v : Value) (w : World) (hr : w.cell? ⟨pr, 0, none⟩ = some (.pointer (some ⟨g, 0, none⟩))) (hc : w.cell? ⟨pe, 0, none⟩ = some v) (hf : w.frozen? ⟨pe, 0, none⟩ = false) :
    CallsD Try.prog 34 #[.pointer (some ⟨pr, 0, none⟩), .pointer (some ⟨pe, 0, none⟩)] .returning w fun e u' w' => e = .returned (.tuple #[]) ∧ u' = .returning ∧ w'.cell? ⟨pe, 0, none⟩ = some (.int .i64 0) ∧ Kept (fun i => i = pe) w w' := by
  have hlt : pe < w.heap.size := World.block_lt_of_cell? w _ hc
  have hltr : pr < w.heap.size := World.block_lt_of_cell? w _ hr
  refine callsD_of_wpS Try.func34 rfl fun c₀ cs hu => ?_
  refine wpS_seq ?_
  refine wpS_region_seq (l := [0, 1, 2, 3]) rfl ?_
  refine seqS_step ?_
  refine stepS_nothing (i := 0) rfl rfl (w' := w) (by kernel_rfl) (by simp [recoverD, hu]) ?_
  refine seqS_step ?_
  refine stepS_calls (i := 1) rfl rfl (w' := w) (f := 29) (args := #[.nilIface]) (by kernel_rfl) ((caught_nil w).mono fun e w2 ⟨he, hk2⟩ => ⟨_, he, ?_⟩)
  have hsz2 := hk2.size
  have hc2 : w2.cell? ⟨pe, 0, none⟩ = some v := (hk2.cell (p := ⟨pe, 0, none⟩) hlt (fun x => x)).trans hc
  have hr2 : w2.cell? ⟨pr, 0, none⟩ = some (.pointer (some ⟨g, 0, none⟩)) := (hk2.cell (p := ⟨pr, 0, none⟩) hltr (fun x => x)).trans hr
  have hf2 : w2.frozen? ⟨pe, 0, none⟩ = false := (World.frozen?_of_block (hk2.block pe hlt (fun x => x))).trans hf
  refine seqS_step ?_
  refine stepS_value (i := 2) rfl rfl (v := .pointer (some ⟨w2.heap.size, 0, none⟩)) (w' := w2.alloc (.cells #[.int .i64 0, .int .i64 0] 51)) (by simp [go_sem]) ?_
  refine seqS_step ?_
  refine stepS_skip (i := 3) rfl rfl (w' := w2.alloc (.cells #[.int .i64 0, .int .i64 0] 51)) (by simp [go_sem]) ?_
  refine seqS_end (thenS_normal ?_)
  refine wpS_seq ?_
  refine wpS_region_seq (l := [0, 1, 2]) rfl ?_
  have hr3 : (w2.alloc (.cells #[.int .i64 0, .int .i64 0] 51)).cell? ⟨pr, 0, none⟩ = some (.pointer (some ⟨g, 0, none⟩)) := by rw [World.cell?_alloc_past _ _ _ (by omega)]; exact hr2
  refine seqS_step ?_
  refine stepS_value (i := 0) rfl rfl (v := .pointer (some ⟨g, 0, none⟩)) (w' := w2.alloc (.cells #[.int .i64 0, .int .i64 0] 51)) (by simp [go_sem, hr3]) ?_
  refine seqS_step ?_
  refine stepS_value (i := 1) rfl rfl (v := .agg #[.int .i64 0, .int .i64 0]) (w' := w2.alloc (.cells #[.int .i64 0, .int .i64 0] 51)) (by simp [go_sem]) ?_
  refine seqS_step ?_
  refine stepS_calls (i := 2) rfl rfl (w' := w2.alloc (.cells #[.int .i64 0, .int .i64 0] 51)) (f := 28) (args := #[.pointer (some ⟨g, 0, none⟩), .agg #[.int .i64 0, .int .i64 0]]) (by kernel_rfl) ((record_none g 0 _).mono fun e3 w3 ⟨he3, hk3⟩ => ⟨_, he3, ?_⟩)
  refine seqS_end (thenS_normal ?_)
  refine wpS_region_seq (l := [0, 1, 2]) rfl ?_
  have hb3 : w3.cell? ⟨w2.heap.size, 1, none⟩ = some (.int .i64 0) := (hk3.cell (p := ⟨w2.heap.size, 1, none⟩) (by simp) (fun x => x)).trans (by simp [go_sem])
  have hc3 : w3.cell? ⟨pe, 0, none⟩ = some v := (hk3.cell (p := ⟨pe, 0, none⟩) (by simp; omega) (fun x => x)).trans (by rw [World.cell?_alloc_past _ _ _ (by omega)]; exact hc2)
  have hf3 : w3.frozen? ⟨pe, 0, none⟩ = false := (World.frozen?_of_block (hk3.block pe (by simp; omega) (fun x => x))).trans (by rw [World.frozen?_of_block (Below.heap_alloc w2 _ pe (by omega))]; exact hf2)
  refine seqS_step ?_
  refine stepS_value (i := 0) rfl rfl (v := .pointer (some ⟨w2.heap.size, 1, none⟩)) (w' := w3) (by simp [go_sem]) ?_
  refine seqS_step ?_
  refine stepS_value (i := 1) rfl rfl (v := .int .i64 0) (w' := w3) (by simp [go_sem, hb3]) ?_
  refine seqS_step ?_
  refine stepS_skip (i := 2) rfl rfl (w' := w3.setCell ⟨pe, 0, none⟩ (.int .i64 0)) (by simp [go_sem, hc3, hf3]) ?_
  refine seqS_end ⟨rfl, .returning, by rw [← hu], .tuple #[], by simp [results, Try.results34], rfl, rfl, ?_, ?_⟩
  · simp [go_sem, hc3]
  · exact (((hk2.alloc _).trans hk3 (fun _ _ x => x)).weaker (T := fun i => i = pe) (fun _ _ x => x.elim)).setCell (p := ⟨pe, 0, none⟩) (.inl rfl) _

set_option maxRecDepth 100000 in
set_option maxHeartbeats 1000000 in
theorem endDefer_own (pr pe B g d c p q : Nat) (s : ByteArray) (pl er k : Int) (older : List PanicEntry) (v : Value) (w : World) (hr : w.cell? ⟨pr, 0, none⟩ = some (.pointer (some ⟨g, 0, none⟩))) (hc : w.cell? ⟨pe, 0, none⟩ = some v) (hf : w.frozen? ⟨pe, 0, none⟩ = false)
    (hR : Rd B w g d c s p pl er) (hk : k ≠ 0) (hq : q ≤ s.size) (hpe : g < pe) :
    CallsD Try.prog 34 #[.pointer (some ⟨pr, 0, none⟩), .pointer (some ⟨pe, 0, none⟩)] (.panicking (faultV q k :: older)) w fun e u' w' =>
      e = .returned (.tuple #[]) ∧ u' = .panicking ({ faultV q k with recovered := true } :: older) ∧ w'.cell? ⟨pe, 0, none⟩ = some (.int .i64 k) ∧ (∃ w3, Rd B w3 g d c s q q k ∧ w3.setCell ⟨pe, 0, none⟩ (.int .i64 k) = w' ∧ Kept (fun i => i = g) w w3) := by
  have hlt : pe < w.heap.size := World.block_lt_of_cell? w _ hc
  have hltr : pr < w.heap.size := World.block_lt_of_cell? w _ hr
  refine callsD_of_wpS Try.func34 rfl fun c₀ cs hu => ?_
  refine wpS_seq ?_
  refine wpS_region_seq (l := [0, 1, 2, 3]) rfl ?_
  refine seqS_step ?_
  refine stepS_recovered (i := 0) rfl rfl (w' := w) (v := .iface 51 (.agg #[.int .i64 q, .int .i64 k])) (cs' := { c₀ with mode := .panicking ({ faultV q k with recovered := true } :: older) } :: cs) (by kernel_rfl) (by simp [recoverD, hu, faultV]) ?_
  refine seqS_step ?_
  refine stepS_calls (i := 1) rfl rfl (w' := w) (f := 29) (args := #[.iface 51 (.agg #[.int .i64 q, .int .i64 k])]) (by kernel_rfl) ((caught_own q k w).mono fun e w2 ⟨he, hk2⟩ => ⟨_, he, ?_⟩)
  have hsz2 := hk2.size
  have hc2 : w2.cell? ⟨pe, 0, none⟩ = some v := (hk2.cell (p := ⟨pe, 0, none⟩) hlt (fun x => x)).trans hc
  have hr2 : w2.cell? ⟨pr, 0, none⟩ = some (.pointer (some ⟨g, 0, none⟩)) := (hk2.cell (p := ⟨pr, 0, none⟩) hltr (fun x => x)).trans hr
  have hf2 : w2.frozen? ⟨pe, 0, none⟩ = false := (World.frozen?_of_block (hk2.block pe hlt (fun x => x))).trans hf
  refine seqS_step ?_
  refine stepS_value (i := 2) rfl rfl (v := .pointer (some ⟨w2.heap.size, 0, none⟩)) (w' := w2.alloc (.cells #[.int .i64 0, .int .i64 0] 51)) (by simp [go_sem]) ?_
  refine seqS_step ?_
  refine stepS_skip (i := 3) rfl rfl (w' := w2.alloc (.cells #[.int .i64 q, .int .i64 k] 51)) (by simp [go_sem]) ?_
  refine seqS_end (thenS_normal ?_)
  refine wpS_seq ?_
  refine wpS_region_seq (l := [0, 1, 2]) rfl ?_
  have hr3 : (w2.alloc (.cells #[.int .i64 q, .int .i64 k] 51)).cell? ⟨pr, 0, none⟩ = some (.pointer (some ⟨g, 0, none⟩)) := by rw [World.cell?_alloc_past _ _ _ (by omega)]; exact hr2
  refine seqS_step ?_
  refine stepS_value (i := 0) rfl rfl (v := .pointer (some ⟨g, 0, none⟩)) (w' := w2.alloc (.cells #[.int .i64 q, .int .i64 k] 51)) (by simp [go_sem, hr3]) ?_
  refine seqS_step ?_
  refine stepS_value (i := 1) rfl rfl (v := .agg #[.int .i64 q, .int .i64 k]) (w' := w2.alloc (.cells #[.int .i64 q, .int .i64 k] 51)) (by simp [go_sem]) ?_
  refine seqS_step ?_
  refine stepS_calls (i := 2) rfl rfl (w' := w2.alloc (.cells #[.int .i64 q, .int .i64 k] 51)) (f := 28) (args := #[.pointer (some ⟨g, 0, none⟩), .agg #[.int .i64 q, .int .i64 k]]) (by kernel_rfl) ((record_some B g d c p q s pl er k _ ((hR.keep hk2 (fun x => x) (fun x => x)).alloc _) hk hq).mono fun e3 w3 ⟨he3, hR3, hk3⟩ => ⟨_, he3, ?_⟩)
  refine seqS_end (thenS_normal ?_)
  refine wpS_region_seq (l := [0, 1, 2]) rfl ?_
  have hb3 : w3.cell? ⟨w2.heap.size, 1, none⟩ = some (.int .i64 k) := (hk3.cell (p := ⟨w2.heap.size, 1, none⟩) (by simp) (fun e => by have := hR.box.lt; simp at e; omega)).trans (by simp [go_sem])
  have hc3 : w3.cell? ⟨pe, 0, none⟩ = some v := (hk3.cell (p := ⟨pe, 0, none⟩) (by simp; omega) (fun e => by have e2 : pe = g := e; omega)).trans (by rw [World.cell?_alloc_past _ _ _ (by omega)]; exact hc2)
  have hf3 : w3.frozen? ⟨pe, 0, none⟩ = false := (World.frozen?_of_block (hk3.block pe (by simp; omega) (fun e => by have e2 : pe = g := e; omega))).trans (by rw [World.frozen?_of_block (Below.heap_alloc w2 _ pe (by omega))]; exact hf2)
  refine seqS_step ?_
  refine stepS_value (i := 0) rfl rfl (v := .pointer (some ⟨w2.heap.size, 1, none⟩)) (w' := w3) (by simp [go_sem]) ?_
  refine seqS_step ?_
  refine stepS_value (i := 1) rfl rfl (v := .int .i64 k) (w' := w3) (by simp [go_sem, hb3]) ?_
  refine seqS_step ?_
  refine stepS_skip (i := 2) rfl rfl (w' := w3.setCell ⟨pe, 0, none⟩ (.int .i64 k)) (by simp [go_sem, hc3, hf3]) ?_
  refine seqS_end ⟨rfl, _, rfl, .tuple #[], by simp [results, Try.results34], rfl, rfl, ?_, w3, hR3, rfl, ?_⟩
  · simp [go_sem, hc3]
  · exact (Kept.weaker (T := fun i => i = g) (hk2.alloc _) (fun _ _ x => x.elim)).trans hk3 (fun _ _ x => x)

set_option maxRecDepth 100000 in
set_option maxHeartbeats 1000000 in
theorem End_ok (B g d c : Nat) (s : ByteArray) (pl : Int) (w : World) (h : Rd B w g d c s s.size pl 0) :
    Calls Try.prog 15 #[.pointer (some ⟨g, 0, none⟩)] w fun e w' => e = .returned (.int .i64 0) ∧ Rd B w' g d c s s.size pl 0 ∧ Kept (fun i => i = g) w w' := by
  have hmf : ∀ (fn : Fn) (first cap : Array Value) (w : World), (Instr.makeFunc fn first cap).run Try.prog w = .ok (.func fn first cap) w := fun _ _ _ _ => rfl
  have hR := (h.alloc (.cells #[.pointer (some ⟨g, 0, none⟩)] 23)).alloc (.cells #[.int .i64 0] 24)
  have hc0 := hR.c0
  have hc1 := hR.c1
  have hlt := h.box.lt
  go_enter_defers Try.func15, Try.ntmps15
  go_wp2_with fail
  refine (sound_yes g _ (hR.c3)).mono ?_
  rintro e w' ⟨rfl, rfl⟩
  go_wp2_with fail
  go_quiet (fail)
  go_wp2_with fail
  refine leaves_cons (f := 34) (args := #[.pointer (some ⟨w.heap.size, 0, none⟩), .pointer (some ⟨w.heap.size + 1, 0, none⟩)]) (by simp) (by simp [go_sem]) ?_
  refine (endDefer_idle w.heap.size (w.heap.size + 1) g (.int .i64 0) _ (by simp [go_sem]) (by simp [go_sem]) (by simp [go_sem])).mono ?_
  rintro e u' w2 ⟨rfl, rfl, hz, hk⟩
  have hk2 : Kept (fun i => i = w.heap.size + 1) w w2 := ((((((Kept.refl (fun i => i = w.heap.size + 1) w).alloc _).alloc _).drewN _).setCell (p := ⟨w.heap.size + 1, 0, none⟩) (.inl rfl) _)).trans hk (fun _ _ x => x)
  refine ⟨.int .i64 0, by simp [results, Try.results15, go_sem, hz], rfl, h.keep hk2 (by have := h.box.lt; omega) (by have := h.lt; omega), hk2.weaker (fun i hi e => by omega)⟩

set_option maxRecDepth 100000 in
set_option maxHeartbeats 1000000 in
theorem End_long (B g d c p : Nat) (s : ByteArray) (pl : Int) (w : World) (h : Rd B w g d c s p pl 0) (hp : p < s.size) :
    Calls Try.prog 15 #[.pointer (some ⟨g, 0, none⟩)] w fun e w' => e = .returned (.int .i64 10) ∧ Rd B w' g d c s p p 10 ∧ Kept (fun i => i = g) w w' := by
  have hmf : ∀ (fn : Fn) (first cap : Array Value) (w : World), (Instr.makeFunc fn first cap).run Try.prog w = .ok (.func fn first cap) w := fun _ _ _ _ => rfl
  have hR := (h.alloc (.cells #[.pointer (some ⟨g, 0, none⟩)] 23)).alloc (.cells #[.int .i64 0] 24)
  have hc0 := hR.c0
  have hc1 := hR.c1
  have hlt := h.box.lt
  go_enter_defers Try.func15, Try.ntmps15
  go_wp2_with fail
  refine (sound_yes g _ (hR.c3)).mono ?_
  rintro e w' ⟨rfl, rfl⟩
  go_wp2_with fail
  go_quiet (fail)
  go_wp2_with fail
  refine leaves_cons (f := 34) (args := #[.pointer (some ⟨w.heap.size, 0, none⟩), .pointer (some ⟨w.heap.size + 1, 0, none⟩)]) (by simp) (by simp [go_sem]) ?_
  refine (endDefer_own w.heap.size (w.heap.size + 1) B g d c p p s pl 0 10 [] (.int .i64 0) _ (by simp [go_sem]) (by simp [go_sem]) (by simp [go_sem]) (hR.drewN _) (by omega) h.inn (by omega)).mono ?_
  rintro e u' w2 ⟨rfl, rfl, hz, w3, hR3, rfl, hk⟩
  have hk2 : Kept (fun i => i = g) w w3 := (((((Kept.refl (fun i => i = g) w).alloc _).alloc _).drewN _)).trans hk (fun _ _ x => x)
  have hs3 : w.heap.size + 2 ≤ w3.heap.size := by have := hk.size; simpa using this
  have hk3 : Kept (fun i => i = w.heap.size + 1) w3 (w3.setCell ⟨w.heap.size + 1, 0, none⟩ (.int .i64 10)) := (Kept.refl (fun i => i = w.heap.size + 1) w3).setCell (p := ⟨w.heap.size + 1, 0, none⟩) (.inl rfl) _
  exact ⟨.int .i64 10, by simp only [results, Try.results15]; simp [go_sem, hz], rfl, hR3.keep hk3 (by omega) (by have := h.lt; omega), hk2.trans hk3 (fun i hi e => by omega)⟩

set_option maxRecDepth 100000 in
set_option maxHeartbeats 1000000 in
theorem End_broken (B g d c p : Nat) (s : ByteArray) (k : Int) (w : World) (h : Rd B w g d c s p p k) (hk0 : k ≠ 0) :
    Calls Try.prog 15 #[.pointer (some ⟨g, 0, none⟩)] w fun e w' => e = .returned (.int .i64 k) ∧ Rd B w' g d c s p p k ∧ Kept (fun i => i = g) w w' := by
  have hmf : ∀ (fn : Fn) (first cap : Array Value) (w : World), (Instr.makeFunc fn first cap).run Try.prog w = .ok (.func fn first cap) w := fun _ _ _ _ => rfl
  have hR := (h.alloc (.cells #[.pointer (some ⟨g, 0, none⟩)] 23)).alloc (.cells #[.int .i64 0] 24)
  have hc2 := hR.c2
  have hc3 := hR.c3
  have hlt := h.box.lt
  go_enter_defers Try.func15, Try.ntmps15
  go_wp2_with fail
  refine (sound_no g p k _ hc2 hc3 hk0).mono ?_
  rintro e w' ⟨rfl, rfl⟩
  go_wp2_with fail
  refine leaves_cons (f := 34) (args := #[.pointer (some ⟨w.heap.size, 0, none⟩), .pointer (some ⟨w.heap.size + 1, 0, none⟩)]) (by simp) (by simp [go_sem]) ?_
  refine (endDefer_own w.heap.size (w.heap.size + 1) B g d c p p s p k k [] (.int .i64 0) _ (by simp [go_sem]) (by simp [go_sem]) (by simp [go_sem]) hR hk0 h.inn (by omega)).mono ?_
  rintro e u' w2 ⟨rfl, rfl, hz, w3, hR3, rfl, hk⟩
  have hk2 : Kept (fun i => i = g) w w3 := ((((Kept.refl (fun i => i = g) w).alloc _).alloc _)).trans hk (fun _ _ x => x)
  have hs3 : w.heap.size + 2 ≤ w3.heap.size := by have := hk.size; simpa using this
  have hk3 : Kept (fun i => i = w.heap.size + 1) w3 (w3.setCell ⟨w.heap.size + 1, 0, none⟩ (.int .i64 k)) := (Kept.refl (fun i => i = w.heap.size + 1) w3).setCell (p := ⟨w.heap.size + 1, 0, none⟩) (.inl rfl) _
  exact ⟨.int .i64 k, by simp only [results, Try.results15]; simp [go_sem, hz], rfl, hR3.keep hk3 (by omega) (by have := h.lt; omega), hk2.trans hk3 (fun i hi e => by omega)⟩
end Go.Proofs.Ytbhdiklhpfackaa
