/-
  The walks over package wire's reader: Text. Conditions: as each theorem states.
-/
import Derived.Test.YtbhdiklhpfackaaWalkR4
namespace Go.Proofs.Ytbhdiklhpfackaa
open Go.RowKit

/-- data[q:q+v]: where it lies, if there is anything in it. -/
theorem cut_any (d n c q v : Nat) (h1 : q + v ≤ n) (h2 : n ≤ c) : ∃ A : Option Addr, (0 < v → A = some ⟨d, q, none⟩) ∧ ∀ wx : World,
    (Instr.slice 41 (.slice (some ⟨d, 0, none⟩) n c) (some (.int .i64 (q : Int))) (some (.int .i64 ((q : Int) + (v : Int)))) none).run Try.prog wx = .ok (.slice A v (c - q)) wx := by
  refine ⟨if c = q then some ⟨d, 0, none⟩ else some ⟨d, q, none⟩, fun hv => if_neg (by omega), fun wx => ?_⟩
  have hr := run_slice_lh (P := Try.prog) wx 41 (some ⟨d, 0, none⟩) n c (by kernel_rfl) .i64 .i64 (q : Int) ((q : Int) + (v : Int)) (by omega) (by omega) (by omega)
  have hs : ∀ wy : World, (sizeOf (Try.prog.elem 41)).run Try.prog wy = .ok 1 wy := fun wy => by kernel_rfl
  rw [hr, hs]
  have e1 : ((q : Int) + (v : Int)).toNat = q + v := by omega
  simp only [Result.andThen, sliced, e1, Int.toNat_natCast, Option.map, Addr.add_lit, Nat.mul_one, Nat.zero_add, Nat.add_sub_cancel_left]

set_option maxRecDepth 100000 in
set_option maxHeartbeats 1000000 in
theorem text_any (B g d c p : Nat) (s : ByteArray) (most pl : Int) (w : World) (h : Rd B w g d c s p pl 0) :
    Calls Try.prog 33 #[.pointer (some ⟨g, 0, none⟩), .int .i64 most] w (TextPost B g d c s pl w (rdText s.data.toList most p)) := by
  cases hv : rdNum s.data.toList 0 most p with
  | error k =>
    have hpost : rdText s.data.toList most p = .error (p, k) := by unfold rdText; rw [hv]
    rw [hpost]
    have hk0 : k ≠ 0 := by have := rdNum_err _ _ _ _ _ _ _ _ hv; omega
    have HK := Lib.hid hk0
    clear hk0
    go_enter Try.func33, Try.ntmps33
    go_wp2_with fail
    refine (number_any B g d c p s 0 most pl 0 _ h).mono ?_
    rw [hv]
    rintro e w' ⟨rfl, hR, hK⟩
    go_wp2_with fail
    exact ⟨rfl, rfl, HK.out, h.inn, hR, hK⟩
  | ok r =>
    obtain ⟨v, q⟩ := r
    have hok := rdNum_ok hv
    have hq : q ≤ s.size := hok.2.2.1
    have hvm := hok.2.2.2.1
    have hfew := h.few
    by_cases hgt : s.size < q + v
    · have hpost : rdText s.data.toList most p = .error (q, 8) := by unfold rdText; rw [hv]; exact if_pos hgt
      rw [hpost]
      have hgt' : (s.size : Int) - (q : Int) < (v : Int) := by omega
      clear hgt hok
      go_enter Try.func33, Try.ntmps33
      go_wp2_with fail
      refine (number_any B g d c p s 0 most pl 0 _ h).mono ?_
      rw [hv]
      rintro e w' ⟨rfl, hR, hK⟩
      have hc0 := hR.c0
      have hc1 := hR.c1
      go_wp2_with fail
      go_quiet (fail)
      go_wp2_with fail
      exact ⟨rfl, rfl, by omega, hq, ⟨q, hR.drewN _⟩, hK.drewN _⟩
    · have hpost : rdText s.data.toList most p = .ok ((s.data.toList.drop q).take v, q + v) := by unfold rdText; rw [hv]; exact if_neg hgt
      rw [hpost]
      have hgt' : (v : Int) ≤ (s.size : Int) - (q : Int) := by omega
      have hqv : q + v ≤ s.size := by omega
      clear hgt hpost hok
      have HV := Lib.hid hv
      go_enter Try.func33, Try.ntmps33
      go_wp2_with fail
      refine (number_any B g d c p s 0 most pl 0 _ h).mono ?_
      rw [hv]
      clear hv
      rintro e w' ⟨rfl, hR, hK⟩
      have hc0 := hR.c0
      have hc1 := hR.c1
      have hf1 : w'.frozen? ⟨g, 1, none⟩ = false := hR.box.free 1
      have hroom := hR.room
      go_wp2_with fail
      go_quiet (fail)
      go_wp2_with fail
      obtain ⟨A, hA, hsl⟩ := cut_any d s.size c q v hqv hroom
      have HA := Lib.hid hA
      clear hA
      have hR6 : Rd B ((w'.drewN nq).setCell ⟨g, 1, none⟩ (.int .i64 ((q : Int) + (v : Int)))) g d c s (q + v) pl 0 := (hR.drewN nq).set (by omega) (by simp)
      have hcv := fun n => piece_string (P := Try.prog) (src := 41) (dst := 9) (e := 5) (hR6.drewN n) Try.underlying41 Try.underlying5 Try.underlying9 q v (c - q) (by omega) A HA.out
      have HF := Lib.hid (And.intro hR6 ((hK.drewN nq).setCell (p := ⟨g, 1, none⟩) (.inl rfl) (.int .i64 ((q : Int) + (v : Int)))))
      clear hR6
      go_quiet (fail)
      go_wp2_with fail
      go_ret
      exact ⟨rfl, HF.out.1.drewN _, HF.out.2.drewN _⟩

set_option maxRecDepth 100000 in
set_option maxHeartbeats 1000000 in
theorem Text_ok (B g d c p q : Nat) (s : ByteArray) (most pl : Int) (t : List UInt8) (w : World) (h : Rd B w g d c s p pl 0) (hv : rdText s.data.toList most p = .ok (t, q)) :
    Calls Try.prog 13 #[.pointer (some ⟨g, 0, none⟩), .int .i64 most] w fun e w' => e = .returned (.string ⟨t.toArray⟩) ∧ Rd B w' g d c s q pl 0 ∧ Kept (fun i => i = g) w w' := by
  have hmf : ∀ (fn : Fn) (first cap : Array Value) (w : World), (Instr.makeFunc fn first cap).run Try.prog w = .ok (.func fn first cap) w := fun _ _ _ _ => rfl
  go_enter_defers Try.func13, Try.ntmps13
  go_wp2_with fail
  refine (sound_yes g _ ((h.alloc _).c3)).mono ?_
  rintro e w' ⟨rfl, rfl⟩
  go_wp2_with fail
  refine (text_any B g d c p s most pl _ (h.alloc _)).mono ?_
  rw [hv]
  rintro e w' ⟨rfl, hR, hK⟩
  go_wp2_with fail
  have hcr : w'.cell? ⟨w.heap.size, 0, none⟩ = some (.pointer (some ⟨g, 0, none⟩)) := (hK.cell (p := ⟨w.heap.size, 0, none⟩) (by simp) (fun e => by have := h.box.lt; simp at e; omega)).trans (by simp [go_sem])
  refine leaves_cons (f := 32) (args := #[.pointer (some ⟨w.heap.size, 0, none⟩)]) (by simp) (by simp [go_sem]) ?_
  refine (textDefer_idle w.heap.size g _ hcr).mono ?_
  rintro e u' w2 ⟨rfl, rfl, hk⟩
  exact ⟨_, results_tmp rfl _ _ _, rfl, hR.keep hk (fun x => x) (fun x => x), (((Kept.refl _ _).alloc _).trans hK (fun _ _ x => x)).trans hk (fun _ _ x => x.elim)⟩

set_option maxRecDepth 100000 in
set_option maxHeartbeats 1000000 in
theorem Text_no (B g d c p q : Nat) (s : ByteArray) (most pl k : Int) (w : World) (h : Rd B w g d c s p pl 0) (hv : rdText s.data.toList most p = .error (q, k)) :
    Calls Try.prog 13 #[.pointer (some ⟨g, 0, none⟩), .int .i64 most] w fun e w' => e = .returned (.string ⟨#[]⟩) ∧ Rd B w' g d c s q q k ∧ k ≠ 0 ∧ Kept (fun i => i = g) w w' := by
  have hmf : ∀ (fn : Fn) (first cap : Array Value) (w : World), (Instr.makeFunc fn first cap).run Try.prog w = .ok (.func fn first cap) w := fun _ _ _ _ => rfl
  go_enter_defers Try.func13, Try.ntmps13
  go_wp2_with fail
  refine (sound_yes g _ ((h.alloc _).c3)).mono ?_
  rintro e w' ⟨rfl, rfl⟩
  go_wp2_with fail
  refine (text_any B g d c p s most pl _ (h.alloc _)).mono ?_
  rw [hv]
  rintro e w' ⟨rfl, hk0, hq, ⟨q', hR⟩, hK⟩
  have HK := Lib.hid hk0
  clear hk0
  go_wp2_with fail
  have hcr : w'.cell? ⟨w.heap.size, 0, none⟩ = some (.pointer (some ⟨g, 0, none⟩)) := (hK.cell (p := ⟨w.heap.size, 0, none⟩) (by simp) (fun e => by have := h.box.lt; simp at e; omega)).trans (by simp [go_sem])
  refine leaves_cons (f := 32) (args := #[.pointer (some ⟨w.heap.size, 0, none⟩)]) (by simp) (by simp [go_sem]) ?_
  refine (textDefer_own w.heap.size B g d c q' q s pl 0 k [] _ hcr hR HK.out hq).mono ?_
  rintro e u' w2 ⟨rfl, rfl, hR2, hk⟩
  exact ⟨_, results_tmp rfl _ _ _, rfl, hR2, HK.out, (((Kept.refl _ _).alloc _).trans hK (fun _ _ x => x)).trans hk (fun _ _ x => x)⟩

set_option maxRecDepth 100000 in
set_option maxHeartbeats 1000000 in
theorem Text_broken (B g d c p : Nat) (s : ByteArray) (most k : Int) (w : World) (h : Rd B w g d c s p p k) (hk0 : k ≠ 0) :
    Calls Try.prog 13 #[.pointer (some ⟨g, 0, none⟩), .int .i64 most] w fun e w' => e = .returned (.string ⟨#[]⟩) ∧ Rd B w' g d c s p p k ∧ Kept (fun i => i = g) w w' := by
  have hmf : ∀ (fn : Fn) (first cap : Array Value) (w : World), (Instr.makeFunc fn first cap).run Try.prog w = .ok (.func fn first cap) w := fun _ _ _ _ => rfl
  go_enter_defers Try.func13, Try.ntmps13
  go_wp2_with fail
  refine (sound_no g p k _ ((h.alloc _).c2) ((h.alloc _).c3) hk0).mono ?_
  rintro e w' ⟨rfl, rfl⟩
  go_wp2_with fail
  refine leaves_cons (f := 32) (args := #[.pointer (some ⟨w.heap.size, 0, none⟩)]) (by simp) (by simp [go_sem]) ?_
  refine (textDefer_own w.heap.size B g d c p p s p k k [] _ (by simp [go_sem]) (h.alloc _) hk0 h.inn).mono ?_
  rintro e u' w2 ⟨rfl, rfl, hR2, hk⟩
  exact ⟨_, results_tmp rfl _ _ _, rfl, hR2, ((Kept.refl _ _).alloc _).trans hk (fun _ _ x => x)⟩
end Go.Proofs.Ytbhdiklhpfackaa
