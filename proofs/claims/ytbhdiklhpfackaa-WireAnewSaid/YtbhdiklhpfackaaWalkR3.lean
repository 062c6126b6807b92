/-
  The walks over package wire's reader: the deferred functions. Conditions: as each theorem states.
-/
import Derived.Test.YtbhdiklhpfackaaWalkR2
import Derived.Test.YtbhdiklhpfackaaRecDraw
import Derived.Defers
namespace Go.Proofs.Ytbhdiklhpfackaa
open Go.RowKit

set_option maxRecDepth 100000 in
set_option maxHeartbeats 1000000 in
theorem numDefer_idle (pr g : Nat) (w : World) (hc : w.cell? ⟨pr, 0, none⟩ = some (.pointer (some ⟨g, 0, none⟩))) :
    CallsD Try.prog 27 #[.pointer (some ⟨pr, 0, none⟩)] .returning w fun e u' w' => e = .returned (.tuple #[]) ∧ u' = .returning ∧ Kept (fun _ => False) w w' := by
  have hlt : pr < w.drew.heap.size := World.block_lt_of_cell? w _ hc
  refine callsD_of_wpS Try.func27 rfl fun c₀ cs hu => ?_
  refine wpS_region_drawn (by kernel_rfl) ?_
  refine anyS_step (rs := [0, 1]) (by kernel_rfl) (by simp) ?_
  intro i hi
  simp only [List.mem_cons, List.not_mem_nil, or_false] at hi
  rcases hi with rfl | rfl
  · refine stepS_value (i := 0) rfl rfl (v := .pointer (some ⟨g, 0, none⟩)) (w' := w.drew) (by simp [go_sem, hc]) ?_
    refine anyS_step (rs := [1]) (by kernel_rfl) (by simp) ?_
    intro i hi
    simp only [List.mem_cons, List.not_mem_nil, or_false] at hi
    subst hi
    refine stepS_nothing (i := 1) rfl rfl (w' := w.drew) (by kernel_rfl) (by simp [recoverD, hu]) ?_
    refine anyS_step (rs := [2]) (by kernel_rfl) (by simp) ?_
    intro i hi
    simp only [List.mem_cons, List.not_mem_nil, or_false] at hi
    subst hi
    refine stepS_calls (i := 2) rfl rfl (w' := w.drew) (f := 29) (args := #[.nilIface]) (by kernel_rfl) ((caught_nil w.drew).mono fun e w2 ⟨he, hk2⟩ => ⟨_, he, ?_⟩)
    have hc2 : w2.cell? ⟨pr, 0, none⟩ = some (.pointer (some ⟨g, 0, none⟩)) := (hk2.cell (p := ⟨pr, 0, none⟩) hlt (fun x => x)).trans hc
    refine anyS_step (rs := [3]) (by kernel_rfl) (by simp) ?_
    intro i hi
    simp only [List.mem_cons, List.not_mem_nil, or_false] at hi
    subst hi
    refine stepS_calls (i := 3) rfl rfl (w' := w2) (f := 28) (args := #[.pointer (some ⟨g, 0, none⟩), .agg #[.int .i64 0, .int .i64 0]]) (by kernel_rfl) ((record_none g 0 w2).mono fun e3 w3 ⟨he3, hk3⟩ => ⟨_, he3, ?_⟩)
    exact anyS_end (by kernel_rfl) (by refine ⟨rfl, .returning, by rw [← hu], .tuple #[], by simp [results, Try.results27], rfl, rfl, ?_⟩; exact (((Kept.refl _ _).drew).trans hk2 (fun _ _ x => x)).trans hk3 (fun _ _ x => x))
  · refine stepS_nothing (i := 1) rfl rfl (w' := w.drew) (by kernel_rfl) (by simp [recoverD, hu]) ?_
    refine anyS_step (rs := [0, 2]) (by kernel_rfl) (by simp) ?_
    intro i hi
    simp only [List.mem_cons, List.not_mem_nil, or_false] at hi
    rcases hi with rfl | rfl
    · refine stepS_value (i := 0) rfl rfl (v := .pointer (some ⟨g, 0, none⟩)) (w' := w.drew) (by simp [go_sem, hc]) ?_
      refine anyS_step (rs := [2]) (by kernel_rfl) (by simp) ?_
      intro i hi
      simp only [List.mem_cons, List.not_mem_nil, or_false] at hi
      subst hi
      refine stepS_calls (i := 2) rfl rfl (w' := w.drew) (f := 29) (args := #[.nilIface]) (by kernel_rfl) ((caught_nil w.drew).mono fun e w2 ⟨he, hk2⟩ => ⟨_, he, ?_⟩)
      have hc2 : w2.cell? ⟨pr, 0, none⟩ = some (.pointer (some ⟨g, 0, none⟩)) := (hk2.cell (p := ⟨pr, 0, none⟩) hlt (fun x => x)).trans hc
      refine anyS_step (rs := [3]) (by kernel_rfl) (by simp) ?_
      intro i hi
      simp only [List.mem_cons, List.not_mem_nil, or_false] at hi
      subst hi
      refine stepS_calls (i := 3) rfl rfl (w' := w2) (f := 28) (args := #[.pointer (some ⟨g, 0, none⟩), .agg #[.int .i64 0, .int .i64 0]]) (by kernel_rfl) ((record_none g 0 w2).mono fun e3 w3 ⟨he3, hk3⟩ => ⟨_, he3, ?_⟩)
      exact anyS_end (by kernel_rfl) (by refine ⟨rfl, .returning, by rw [← hu], .tuple #[], by simp [results, Try.results27], rfl, rfl, ?_⟩; exact (((Kept.refl _ _).drew).trans hk2 (fun _ _ x => x)).trans hk3 (fun _ _ x => x))
    · refine stepS_calls (i := 2) rfl rfl (w' := w.drew) (f := 29) (args := #[.nilIface]) (by kernel_rfl) ((caught_nil w.drew).mono fun e w2 ⟨he, hk2⟩ => ⟨_, he, ?_⟩)
      have hc2 : w2.cell? ⟨pr, 0, none⟩ = some (.pointer (some ⟨g, 0, none⟩)) := (hk2.cell (p := ⟨pr, 0, none⟩) hlt (fun x => x)).trans hc
      refine anyS_step (rs := [0]) (by kernel_rfl) (by simp) ?_
      intro i hi
      simp only [List.mem_cons, List.not_mem_nil, or_false] at hi
      subst hi
      refine stepS_value (i := 0) rfl rfl (v := .pointer (some ⟨g, 0, none⟩)) (w' := w2) (by simp [go_sem, hc2]) ?_
      refine anyS_step (rs := [3]) (by kernel_rfl) (by simp) ?_
      intro i hi
      simp only [List.mem_cons, List.not_mem_nil, or_false] at hi
      subst hi
      refine stepS_calls (i := 3) rfl rfl (w' := w2) (f := 28) (args := #[.pointer (some ⟨g, 0, none⟩), .agg #[.int .i64 0, .int .i64 0]]) (by kernel_rfl) ((record_none g 0 w2).mono fun e3 w3 ⟨he3, hk3⟩ => ⟨_, he3, ?_⟩)
      exact anyS_end (by kernel_rfl) (by refine ⟨rfl, .returning, by rw [← hu], .tuple #[], by simp [results, Try.results27], rfl, rfl, ?_⟩; exact (((Kept.refl _ _).drew).trans hk2 (fun _ _ x => x)).trans hk3 (fun _ _ x => x))

set_option maxRecDepth 100000 in
set_option maxHeartbeats 1000000 in
theorem numDefer_own (pr B g d c p q : Nat) (s : ByteArray) (pl er k : Int) (older : List PanicEntry) (w : World) (hc : w.cell? ⟨pr, 0, none⟩ = some (.pointer (some ⟨g, 0, none⟩))) (hR : Rd B w g d c s p pl er) (hk : k ≠ 0) (hq : q ≤ s.size) :
    CallsD Try.prog 27 #[.pointer (some ⟨pr, 0, none⟩)] (.panicking (faultV q k :: older)) w fun e u' w' =>
      e = .returned (.tuple #[]) ∧ u' = .panicking ({ faultV q k with recovered := true } :: older) ∧ Rd B w' g d c s q q k ∧ Kept (fun i => i = g) w w' := by
  have hlt : pr < w.drew.heap.size := World.block_lt_of_cell? w _ hc
  refine callsD_of_wpS Try.func27 rfl fun c₀ cs hu => ?_
  refine wpS_region_drawn (by kernel_rfl) ?_
  refine anyS_step (rs := [0, 1]) (by kernel_rfl) (by simp) ?_
  intro i hi
  simp only [List.mem_cons, List.not_mem_nil, or_false] at hi
  rcases hi with rfl | rfl
  · refine stepS_value (i := 0) rfl rfl (v := .pointer (some ⟨g, 0, none⟩)) (w' := w.drew) (by simp [go_sem, hc]) ?_
    refine anyS_step (rs := [1]) (by kernel_rfl) (by simp) ?_
    intro i hi
    simp only [List.mem_cons, List.not_mem_nil, or_false] at hi
    subst hi
    refine stepS_recovered (i := 1) rfl rfl (w' := w.drew) (v := .iface 51 (.agg #[.int .i64 q, .int .i64 k])) (cs' := { c₀ with mode := .panicking ({ faultV q k with recovered := true } :: older) } :: cs) (by kernel_rfl) (by simp [recoverD, hu, faultV]) ?_
    refine anyS_step (rs := [2]) (by kernel_rfl) (by simp) ?_
    intro i hi
    simp only [List.mem_cons, List.not_mem_nil, or_false] at hi
    subst hi
    refine stepS_calls (i := 2) rfl rfl (w' := w.drew) (f := 29) (args := #[.iface 51 (.agg #[.int .i64 q, .int .i64 k])]) (by kernel_rfl) ((caught_own q k w.drew).mono fun e w2 ⟨he, hk2⟩ => ⟨_, he, ?_⟩)
    have hc2 : w2.cell? ⟨pr, 0, none⟩ = some (.pointer (some ⟨g, 0, none⟩)) := (hk2.cell (p := ⟨pr, 0, none⟩) hlt (fun x => x)).trans hc
    refine anyS_step (rs := [3]) (by kernel_rfl) (by simp) ?_
    intro i hi
    simp only [List.mem_cons, List.not_mem_nil, or_false] at hi
    subst hi
    refine stepS_calls (i := 3) rfl rfl (w' := w2) (f := 28) (args := #[.pointer (some ⟨g, 0, none⟩), .agg #[.int .i64 q, .int .i64 k]]) (by kernel_rfl) ((record_some B g d c p q s pl er k w2 ((hR.drew).keep hk2 (fun x => x) (fun x => x)) hk hq).mono fun e3 w3 ⟨he3, hR3, hk3⟩ => ⟨_, he3, ?_⟩)
    exact anyS_end (by kernel_rfl) (by refine ⟨rfl, _, rfl, .tuple #[], by simp [results, Try.results27], rfl, rfl, hR3, ?_⟩; exact (((Kept.refl _ _).drew).trans hk2 (fun _ _ x => x.elim)).trans hk3 (fun _ _ x => x))
  · refine stepS_recovered (i := 1) rfl rfl (w' := w.drew) (v := .iface 51 (.agg #[.int .i64 q, .int .i64 k])) (cs' := { c₀ with mode := .panicking ({ faultV q k with recovered := true } :: older) } :: cs) (by kernel_rfl) (by simp [recoverD, hu, faultV]) ?_
    refine anyS_step (rs := [0, 2]) (by kernel_rfl) (by simp) ?_
    intro i hi
    simp only [List.mem_cons, List.not_mem_nil, or_false] at hi
    rcases hi with rfl | rfl
    · refine stepS_value (i := 0) rfl rfl (v := .pointer (some ⟨g, 0, none⟩)) (w' := w.drew) (by simp [go_sem, hc]) ?_
      refine anyS_step (rs := [2]) (by kernel_rfl) (by simp) ?_
      intro i hi
      simp only [List.mem_cons, List.not_mem_nil, or_false] at hi
      subst hi
      refine stepS_calls (i := 2) rfl rfl (w' := w.drew) (f := 29) (args := #[.iface 51 (.agg #[.int .i64 q, .int .i64 k])]) (by kernel_rfl) ((caught_own q k w.drew).mono fun e w2 ⟨he, hk2⟩ => ⟨_, he, ?_⟩)
      have hc2 : w2.cell? ⟨pr, 0, none⟩ = some (.pointer (some ⟨g, 0, none⟩)) := (hk2.cell (p := ⟨pr, 0, none⟩) hlt (fun x => x)).trans hc
      refine anyS_step (rs := [3]) (by kernel_rfl) (by simp) ?_
      intro i hi
      simp only [List.mem_cons, List.not_mem_nil, or_false] at hi
      subst hi
      refine stepS_calls (i := 3) rfl rfl (w' := w2) (f := 28) (args := #[.pointer (some ⟨g, 0, none⟩), .agg #[.int .i64 q, .int .i64 k]]) (by kernel_rfl) ((record_some B g d c p q s pl er k w2 ((hR.drew).keep hk2 (fun x => x) (fun x => x)) hk hq).mono fun e3 w3 ⟨he3, hR3, hk3⟩ => ⟨_, he3, ?_⟩)
      exact anyS_end (by kernel_rfl) (by refine ⟨rfl, _, rfl, .tuple #[], by simp [results, Try.results27], rfl, rfl, hR3, ?_⟩; exact (((Kept.refl _ _).drew).trans hk2 (fun _ _ x => x.elim)).trans hk3 (fun _ _ x => x))
    · refine stepS_calls (i := 2) rfl rfl (w' := w.drew) (f := 29) (args := #[.iface 51 (.agg #[.int .i64 q, .int .i64 k])]) (by kernel_rfl) ((caught_own q k w.drew).mono fun e w2 ⟨he, hk2⟩ => ⟨_, he, ?_⟩)
      have hc2 : w2.cell? ⟨pr, 0, none⟩ = some (.pointer (some ⟨g, 0, none⟩)) := (hk2.cell (p := ⟨pr, 0, none⟩) hlt (fun x => x)).trans hc
      refine anyS_step (rs := [0]) (by kernel_rfl) (by simp) ?_
      intro i hi
      simp only [List.mem_cons, List.not_mem_nil, or_false] at hi
      subst hi
      refine stepS_value (i := 0) rfl rfl (v := .pointer (some ⟨g, 0, none⟩)) (w' := w2) (by simp [go_sem, hc2]) ?_
      refine anyS_step (rs := [3]) (by kernel_rfl) (by simp) ?_
      intro i hi
      simp only [List.mem_cons, List.not_mem_nil, or_false] at hi
      subst hi
      refine stepS_calls (i := 3) rfl rfl (w' := w2) (f := 28) (args := #[.pointer (some ⟨g, 0, none⟩), .agg #[.int .i64 q, .int .i64 k]]) (by kernel_rfl) ((record_some B g d c p q s pl er k w2 ((hR.drew).keep hk2 (fun x => x) (fun x => x)) hk hq).mono fun e3 w3 ⟨he3, hR3, hk3⟩ => ⟨_, he3, ?_⟩)
      exact anyS_end (by kernel_rfl) (by refine ⟨rfl, _, rfl, .tuple #[], by simp [results, Try.results27], rfl, rfl, hR3, ?_⟩; exact (((Kept.refl _ _).drew).trans hk2 (fun _ _ x => x.elim)).trans hk3 (fun _ _ x => x))

set_option maxRecDepth 100000 in
set_option maxHeartbeats 1000000 in
theorem textDefer_idle (pr g : Nat) (w : World) (hc : w.cell? ⟨pr, 0, none⟩ = some (.pointer (some ⟨g, 0, none⟩))) :
    CallsD Try.prog 32 #[.pointer (some ⟨pr, 0, none⟩)] .returning w fun e u' w' => e = .returned (.tuple #[]) ∧ u' = .returning ∧ Kept (fun _ => False) w w' := by
  have hlt : pr < w.drew.heap.size := World.block_lt_of_cell? w _ hc
  refine callsD_of_wpS Try.func32 rfl fun c₀ cs hu => ?_
  refine wpS_region_drawn (by kernel_rfl) ?_
  refine anyS_step (rs := [0, 1]) (by kernel_rfl) (by simp) ?_
  intro i hi
  simp only [List.mem_cons, List.not_mem_nil, or_false] at hi
  rcases hi with rfl | rfl
  · refine stepS_value (i := 0) rfl rfl (v := .pointer (some ⟨g, 0, none⟩)) (w' := w.drew) (by simp [go_sem, hc]) ?_
    refine anyS_step (rs := [1]) (by kernel_rfl) (by simp) ?_
    intro i hi
    simp only [List.mem_cons, List.not_mem_nil, or_false] at hi
    subst hi
    refine stepS_nothing (i := 1) rfl rfl (w' := w.drew) (by kernel_rfl) (by simp [recoverD, hu]) ?_
    refine anyS_step (rs := [2]) (by kernel_rfl) (by simp) ?_
    intro i hi
    simp only [List.mem_cons, List.not_mem_nil, or_false] at hi
    subst hi
    refine stepS_calls (i := 2) rfl rfl (w' := w.drew) (f := 29) (args := #[.nilIface]) (by kernel_rfl) ((caught_nil w.drew).mono fun e w2 ⟨he, hk2⟩ => ⟨_, he, ?_⟩)
    have hc2 : w2.cell? ⟨pr, 0, none⟩ = some (.pointer (some ⟨g, 0, none⟩)) := (hk2.cell (p := ⟨pr, 0, none⟩) hlt (fun x => x)).trans hc
    refine anyS_step (rs := [3]) (by kernel_rfl) (by simp) ?_
    intro i hi
    simp only [List.mem_cons, List.not_mem_nil, or_false] at hi
    subst hi
    refine stepS_calls (i := 3) rfl rfl (w' := w2) (f := 28) (args := #[.pointer (some ⟨g, 0, none⟩), .agg #[.int .i64 0, .int .i64 0]]) (by kernel_rfl) ((record_none g 0 w2).mono fun e3 w3 ⟨he3, hk3⟩ => ⟨_, he3, ?_⟩)
    exact anyS_end (by kernel_rfl) (by refine ⟨rfl, .returning, by rw [← hu], .tuple #[], by simp [results, Try.results32], rfl, rfl, ?_⟩; exact (((Kept.refl _ _).drew).trans hk2 (fun _ _ x => x)).trans hk3 (fun _ _ x => x))
  · refine stepS_nothing (i := 1) rfl rfl (w' := w.drew) (by kernel_rfl) (by simp [recoverD, hu]) ?_
    refine anyS_step (rs := [0, 2]) (by kernel_rfl) (by simp) ?_
    intro i hi
    simp only [List.mem_cons, List.not_mem_nil, or_false] at hi
    rcases hi with rfl | rfl
    · refine stepS_value (i := 0) rfl rfl (v := .pointer (some ⟨g, 0, none⟩)) (w' := w.drew) (by simp [go_sem, hc]) ?_
      refine anyS_step (rs := [2]) (by kernel_rfl) (by simp) ?_
      intro i hi
      simp only [List.mem_cons, List.not_mem_nil, or_false] at hi
      subst hi
      refine stepS_calls (i := 2) rfl rfl (w' := w.drew) (f := 29) (args := #[.nilIface]) (by kernel_rfl) ((caught_nil w.drew).mono fun e w2 ⟨he, hk2⟩ => ⟨_, he, ?_⟩)
      have hc2 : w2.cell? ⟨pr, 0, none⟩ = some (.pointer (some ⟨g, 0, none⟩)) := (hk2.cell (p := ⟨pr, 0, none⟩) hlt (fun x => x)).trans hc
      refine anyS_step (rs := [3]) (by kernel_rfl) (by simp) ?_
      intro i hi
      simp only [List.mem_cons, List.not_mem_nil, or_false] at hi
      subst hi
      refine stepS_calls (i := 3) rfl rfl (w' := w2) (f := 28) (args := #[.pointer (some ⟨g, 0, none⟩), .agg #[.int .i64 0, .int .i64 0]]) (by kernel_rfl) ((record_none g 0 w2).mono fun e3 w3 ⟨he3, hk3⟩ => ⟨_, he3, ?_⟩)
      exact anyS_end (by kernel_rfl) (by refine ⟨rfl, .returning, by rw [← hu], .tuple #[], by simp [results, Try.results32], rfl, rfl, ?_⟩; exact (((Kept.refl _ _).drew).trans hk2 (fun _ _ x => x)).trans hk3 (fun _ _ x => x))
    · refine stepS_calls (i := 2) rfl rfl (w' := w.drew) (f := 29) (args := #[.nilIface]) (by kernel_rfl) ((caught_nil w.drew).mono fun e w2 ⟨he, hk2⟩ => ⟨_, he, ?_⟩)
      have hc2 : w2.cell? ⟨pr, 0, none⟩ = some (.pointer (some ⟨g, 0, none⟩)) := (hk2.cell (p := ⟨pr, 0, none⟩) hlt (fun x => x)).trans hc
      refine anyS_step (rs := [0]) (by kernel_rfl) (by simp) ?_
      intro i hi
      simp only [List.mem_cons, List.not_mem_nil, or_false] at hi
      subst hi
      refine stepS_value (i := 0) rfl rfl (v := .pointer (some ⟨g, 0, none⟩)) (w' := w2) (by simp [go_sem, hc2]) ?_
      refine anyS_step (rs := [3]) (by kernel_rfl) (by simp) ?_
      intro i hi
      simp only [List.mem_cons, List.not_mem_nil, or_false] at hi
      subst hi
      refine stepS_calls (i := 3) rfl rfl (w' := w2) (f := 28) (args := #[.pointer (some ⟨g, 0, none⟩), .agg #[.int .i64 0, .int .i64 0]]) (by kernel_rfl) ((record_none g 0 w2).mono fun e3 w3 ⟨he3, hk3⟩ => ⟨_, he3, ?_⟩)
      exact anyS_end (by kernel_rfl) (by refine ⟨rfl, .returning, by rw [← hu], .tuple #[], by simp [results, Try.results32], rfl, rfl, ?_⟩; exact (((Kept.refl _ _).drew).trans hk2 (fun _ _ x => x)).trans hk3 (fun _ _ x => x))

set_option maxRecDepth 100000 in
set_option maxHeartbeats 1000000 in
theorem textDefer_own (pr B g d c p q : Nat) (s : ByteArray) (pl er k : Int) (older : List PanicEntry) (w : World) (hc : w.cell? ⟨pr, 0, none⟩ = some (.pointer (some ⟨g, 0, none⟩))) (hR : Rd B w g d c s p pl er) (hk : k ≠ 0) (hq : q ≤ s.size) :
    CallsD Try.prog 32 #[.pointer (some ⟨pr, 0, none⟩)] (.panicking (faultV q k :: older)) w fun e u' w' =>
      e = .returned (.tuple #[]) ∧ u' = .panicking ({ faultV q k with recovered := true } :: older) ∧ Rd B w' g d c s q q k ∧ Kept (fun i => i = g) w w' := by
  have hlt : pr < w.drew.heap.size := World.block_lt_of_cell? w _ hc
  refine callsD_of_wpS Try.func32 rfl fun c₀ cs hu => ?_
  refine wpS_region_drawn (by kernel_rfl) ?_
  refine anyS_step (rs := [0, 1]) (by kernel_rfl) (by simp) ?_
  intro i hi
  simp only [List.mem_cons, List.not_mem_nil, or_false] at hi
  rcases hi with rfl | rfl
  · refine stepS_value (i := 0) rfl rfl (v := .pointer (some ⟨g, 0, none⟩)) (w' := w.drew) (by simp [go_sem, hc]) ?_
    refine anyS_step (rs := [1]) (by kernel_rfl) (by simp) ?_
    intro i hi
    simp only [List.mem_cons, List.not_mem_nil, or_false] at hi
    subst hi
    refine stepS_recovered (i := 1) rfl rfl (w' := w.drew) (v := .iface 51 (.agg #[.int .i64 q, .int .i64 k])) (cs' := { c₀ with mode := .panicking ({ faultV q k with recovered := true } :: older) } :: cs) (by kernel_rfl) (by simp [recoverD, hu, faultV]) ?_
    refine anyS_step (rs := [2]) (by kernel_rfl) (by simp) ?_
    intro i hi
    simp only [List.mem_cons, List.not_mem_nil, or_false] at hi
    subst hi
    refine stepS_calls (i := 2) rfl rfl (w' := w.drew) (f := 29) (args := #[.iface 51 (.agg #[.int .i64 q, .int .i64 k])]) (by kernel_rfl) ((caught_own q k w.drew).mono fun e w2 ⟨he, hk2⟩ => ⟨_, he, ?_⟩)
    have hc2 : w2.cell? ⟨pr, 0, none⟩ = some (.pointer (some ⟨g, 0, none⟩)) := (hk2.cell (p := ⟨pr, 0, none⟩) hlt (fun x => x)).trans hc
    refine anyS_step (rs := [3]) (by kernel_rfl) (by simp) ?_
    intro i hi
    simp only [List.mem_cons, List.not_mem_nil, or_false] at hi
    subst hi
    refine stepS_calls (i := 3) rfl rfl (w' := w2) (f := 28) (args := #[.pointer (some ⟨g, 0, none⟩), .agg #[.int .i64 q, .int .i64 k]]) (by kernel_rfl) ((record_some B g d c p q s pl er k w2 ((hR.drew).keep hk2 (fun x => x) (fun x => x)) hk hq).mono fun e3 w3 ⟨he3, hR3, hk3⟩ => ⟨_, he3, ?_⟩)
    exact anyS_end (by kernel_rfl) (by refine ⟨rfl, _, rfl, .tuple #[], by simp [results, Try.results32], rfl, rfl, hR3, ?_⟩; exact (((Kept.refl _ _).drew).trans hk2 (fun _ _ x => x.elim)).trans hk3 (fun _ _ x => x))
  · refine stepS_recovered (i := 1) rfl rfl (w' := w.drew) (v := .iface 51 (.agg #[.int .i64 q, .int .i64 k])) (cs' := { c₀ with mode := .panicking ({ faultV q k with recovered := true } :: older) } :: cs) (by kernel_rfl) (by simp [recoverD, hu, faultV]) ?_
    refine anyS_step (rs := [0, 2]) (by kernel_rfl) (by simp) ?_
    intro i hi
    simp only [List.mem_cons, List.not_mem_nil, or_false] at hi
    rcases hi with rfl | rfl
    · refine stepS_value (i := 0) rfl rfl (v := .pointer (some ⟨g, 0, none⟩)) (w' := w.drew) (by simp [go_sem, hc]) ?_
      refine anyS_step (rs := [2]) (by kernel_rfl) (by simp) ?_
      intro i hi
      simp only [List.mem_cons, List.not_mem_nil, or_false] at hi
      subst hi
      refine stepS_calls (i := 2) rfl rfl (w' := w.drew) (f := 29) (args := #[.iface 51 (.agg #[.int .i64 q, .int .i64 k])]) (by kernel_rfl) ((caught_own q k w.drew).mono fun e w2 ⟨he, hk2⟩ => ⟨_, he, ?_⟩)
      have hc2 : w2.cell? ⟨pr, 0, none⟩ = some (.pointer (some ⟨g, 0, none⟩)) := (hk2.cell (p := ⟨pr, 0, none⟩) hlt (fun x => x)).trans hc
      refine anyS_step (rs := [3]) (by kernel_rfl) (by simp) ?_
      intro i hi
      simp only [List.mem_cons, List.not_mem_nil, or_false] at hi
      subst hi
      refine stepS_calls (i := 3) rfl rfl (w' := w2) (f := 28) (args := #[.pointer (some ⟨g, 0, none⟩), .agg #[.int .i64 q, .int .i64 k]]) (by kernel_rfl) ((record_some B g d c p q s pl er k w2 ((hR.drew).keep hk2 (fun x => x) (fun x => x)) hk hq).mono fun e3 w3 ⟨he3, hR3, hk3⟩ => ⟨_, he3, ?_⟩)
      exact anyS_end (by kernel_rfl) (by refine ⟨rfl, _, rfl, .tuple #[], by simp [results, Try.results32], rfl, rfl, hR3, ?_⟩; exact (((Kept.refl _ _).drew).trans hk2 (fun _ _ x => x.elim)).trans hk3 (fun _ _ x => x))
    · refine stepS_calls (i := 2) rfl rfl (w' := w.drew) (f := 29) (args := #[.iface 51 (.agg #[.int .i64 q, .int .i64 k])]) (by kernel_rfl) ((caught_own q k w.drew).mono fun e w2 ⟨he, hk2⟩ => ⟨_, he, ?_⟩)
      have hc2 : w2.cell? ⟨pr, 0, none⟩ = some (.pointer (some ⟨g, 0, none⟩)) := (hk2.cell (p := ⟨pr, 0, none⟩) hlt (fun x => x)).trans hc
      refine anyS_step (rs := [0]) (by kernel_rfl) (by simp) ?_
      intro i hi
      simp only [List.mem_cons, List.not_mem_nil, or_false] at hi
      subst hi
      refine stepS_value (i := 0) rfl rfl (v := .pointer (some ⟨g, 0, none⟩)) (w' := w2) (by simp [go_sem, hc2]) ?_
      refine anyS_step (rs := [3]) (by kernel_rfl) (by simp) ?_
      intro i hi
      simp only [List.mem_cons, List.not_mem_nil, or_false] at hi
      subst hi
      refine stepS_calls (i := 3) rfl rfl (w' := w2) (f := 28) (args := #[.pointer (some ⟨g, 0, none⟩), .agg #[.int .i64 q, .int .i64 k]]) (by kernel_rfl) ((record_some B g d c p q s pl er k w2 ((hR.drew).keep hk2 (fun x => x) (fun x => x)) hk hq).mono fun e3 w3 ⟨he3, hR3, hk3⟩ => ⟨_, he3, ?_⟩)
      exact anyS_end (by kernel_rfl) (by refine ⟨rfl, _, rfl, .tuple #[], by simp [results, Try.results32], rfl, rfl, hR3, ?_⟩; exact (((Kept.refl _ _).drew).trans hk2 (fun _ _ x => x.elim)).trans hk3 (fun _ _ x => x))
end Go.Proofs.Ytbhdiklhpfackaa
