/-
  The walks over package wire's reader: Num and Text. Conditions: as each theorem states.
-/
import Derived.Test.YtbhdiklhpfackaaWalkR3
namespace Go.Proofs.Ytbhdiklhpfackaa
open Go.RowKit

theorem rdNum_err (l : List UInt8) (least most : Int) : ∀ (f i p n : Nat) (k : Int), scan l least most f i p n = .error k → k = 8 ∨ k = 11 ∨ k = 20 := by
  intro f
  induction f with
  | zero => intro i p n k h; simp [scan] at h; omega
  | succ f ih =>
    intro i p n k h
    rw [scan] at h
    cases hp : l[p]? with
    | none => simp [hp] at h; omega
    | some b =>
      simp only [hp] at h
      split at h
      · exact ih _ _ _ _ h
      · split at h
        · injection h with h; omega
        · split at h
          · injection h with h; omega
          · cases h

set_option maxRecDepth 100000 in
set_option maxHeartbeats 1000000 in
theorem Num_ok (B g d c p v q : Nat) (s : ByteArray) (least most pl : Int) (w : World) (h : Rd B w g d c s p pl 0) (hv : rdNum s.data.toList least most p = .ok (v, q)) :
    Calls Try.prog 12 #[.pointer (some ⟨g, 0, none⟩), .int .i64 least, .int .i64 most] w fun e w' => e = .returned (.int .i64 v) ∧ Rd B w' g d c s q pl 0 ∧ Kept (fun i => i = g) w w' := by
  have hmf : ∀ (fn : Fn) (first cap : Array Value) (w : World), (Instr.makeFunc fn first cap).run Try.prog w = .ok (.func fn first cap) w := fun _ _ _ _ => rfl
  go_enter_defers Try.func12, Try.ntmps12
  go_wp2_with fail
  refine (sound_yes g _ ((h.alloc _).c3)).mono ?_
  rintro e w' ⟨rfl, rfl⟩
  go_wp2_with fail
  refine (number_any B g d c p s least most pl 0 _ (h.alloc _)).mono ?_
  rw [hv]
  rintro e w' ⟨rfl, hR, hK⟩
  go_wp2_with fail
  have hcr : w'.cell? ⟨w.heap.size, 0, none⟩ = some (.pointer (some ⟨g, 0, none⟩)) := (hK.cell (p := ⟨w.heap.size, 0, none⟩) (by simp) (fun e => by have := h.box.lt; simp at e; omega)).trans (by simp [go_sem])
  refine leaves_cons (f := 27) (args := #[.pointer (some ⟨w.heap.size, 0, none⟩)]) (by simp) (by simp [go_sem]) ?_
  refine (numDefer_idle w.heap.size g _ hcr).mono ?_
  rintro e u' w2 ⟨rfl, rfl, hk⟩
  exact ⟨_, results_tmp rfl _ _ _, rfl, hR.keep hk (fun x => x) (fun x => x), (((Kept.refl _ _).alloc _).trans hK (fun _ _ x => x)).trans hk (fun _ _ x => x.elim)⟩

set_option maxRecDepth 100000 in
set_option maxHeartbeats 1000000 in
theorem Num_no (B g d c p : Nat) (s : ByteArray) (least most pl k : Int) (w : World) (h : Rd B w g d c s p pl 0) (hv : rdNum s.data.toList least most p = .error k) :
    Calls Try.prog 12 #[.pointer (some ⟨g, 0, none⟩), .int .i64 least, .int .i64 most] w fun e w' => e = .returned (.int .i64 0) ∧ Rd B w' g d c s p p k ∧ Kept (fun i => i = g) w w' := by
  have hk0 : k ≠ 0 := by have := rdNum_err _ _ _ _ _ _ _ _ hv; omega
  have hmf : ∀ (fn : Fn) (first cap : Array Value) (w : World), (Instr.makeFunc fn first cap).run Try.prog w = .ok (.func fn first cap) w := fun _ _ _ _ => rfl
  go_enter_defers Try.func12, Try.ntmps12
  go_wp2_with fail
  refine (sound_yes g _ ((h.alloc _).c3)).mono ?_
  rintro e w' ⟨rfl, rfl⟩
  go_wp2_with fail
  refine (number_any B g d c p s least most pl 0 _ (h.alloc _)).mono ?_
  rw [hv]
  rintro e w' ⟨rfl, ⟨q, hR⟩, hK⟩
  go_wp2_with fail
  have hcr : w'.cell? ⟨w.heap.size, 0, none⟩ = some (.pointer (some ⟨g, 0, none⟩)) := (hK.cell (p := ⟨w.heap.size, 0, none⟩) (by simp) (fun e => by have := h.box.lt; simp at e; omega)).trans (by simp [go_sem])
  refine leaves_cons (f := 27) (args := #[.pointer (some ⟨w.heap.size, 0, none⟩)]) (by simp) (by simp [go_sem]) ?_
  refine (numDefer_own w.heap.size B g d c q p s pl 0 k [] _ hcr hR hk0 h.inn).mono ?_
  rintro e u' w2 ⟨rfl, rfl, hR2, hk⟩
  exact ⟨_, results_tmp rfl _ _ _, rfl, hR2, (((Kept.refl _ _).alloc _).trans hK (fun _ _ x => x)).trans hk (fun _ _ x => x)⟩

set_option maxRecDepth 100000 in
set_option maxHeartbeats 1000000 in
theorem Num_broken (B g d c p : Nat) (s : ByteArray) (least most k : Int) (w : World) (h : Rd B w g d c s p p k) (hk0 : k ≠ 0) :
    Calls Try.prog 12 #[.pointer (some ⟨g, 0, none⟩), .int .i64 least, .int .i64 most] w fun e w' => e = .returned (.int .i64 0) ∧ Rd B w' g d c s p p k ∧ Kept (fun i => i = g) w w' := by
  have hmf : ∀ (fn : Fn) (first cap : Array Value) (w : World), (Instr.makeFunc fn first cap).run Try.prog w = .ok (.func fn first cap) w := fun _ _ _ _ => rfl
  go_enter_defers Try.func12, Try.ntmps12
  go_wp2_with fail
  refine (sound_no g p k _ ((h.alloc _).c2) ((h.alloc _).c3) hk0).mono ?_
  rintro e w' ⟨rfl, rfl⟩
  go_wp2_with fail
  refine leaves_cons (f := 27) (args := #[.pointer (some ⟨w.heap.size, 0, none⟩)]) (by simp) (by simp [go_sem]) ?_
  refine (numDefer_own w.heap.size B g d c p p s p k k [] _ (by simp [go_sem]) (h.alloc _) hk0 h.inn).mono ?_
  rintro e u' w2 ⟨rfl, rfl, hR2, hk⟩
  exact ⟨_, results_tmp rfl _ _ _, rfl, hR2, ((Kept.refl _ _).alloc _).trans hk (fun _ _ x => x)⟩

/-- What reading a text comes to: the bytes and the place behind them; or an error and its place. -/
def rdText (l : List UInt8) (most : Int) (p : Nat) : Except (Nat × Int) (List UInt8 × Nat) :=
  match rdNum l 0 most p with
  | .error k => .error (p, k)
  | .ok (v, q) => if l.length < q + v then .error (q, 8) else .ok ((l.drop q).take v, q + v)

def TextPost (B g d c : Nat) (s : ByteArray) (pl : Int) (w : World) (r : Except (Nat × Int) (List UInt8 × Nat)) (e : Ending) (w' : World) : Prop :=
  match r with
  | .ok (t, q) => e = .returned (.string ⟨t.toArray⟩) ∧ Rd B w' g d c s q pl 0 ∧ Kept (fun i => i = g) w w'
  | .error (q, k) => e = .panicked [faultV q k] ∧ k ≠ 0 ∧ q ≤ s.size ∧ (∃ q', Rd B w' g d c s q' pl 0) ∧ Kept (fun i => i = g) w w'

/-- string(data[q:q+v]). -/
theorem piece_string {B : Nat} {w : World} {g d c : Nat} {s : ByteArray} {p : Nat} {pl er : Int} (h : Rd B w g d c s p pl er) {src dst e : TypeId} {P : Program} (hs : P.underlying src = some (.slice e)) (he : P.underlying e = some (.int .u8)) (hd : P.underlying dst = some .string)
    (q v cap : Nat) (hv : q + v ≤ s.size) (a : Option Addr) (ha : 0 < v → a = some ⟨d, q, none⟩) :
    (convert src dst (.slice a v cap)).run P w = .ok (.string ⟨((s.data.toList.drop q).take v).toArray⟩) w := by
  by_cases hz : v = 0
  · subst hz
    have e1 := run_convert_bytes_string (P := P) w src dst e a 0 cap hs he hd
    rw [e1]
    cases a with
    | none => simp [Conv.bytesToString]; rfl
    | some ad => simp [Conv.bytesToString, loadCells, loadCellsFrom]; rfl
  · rw [ha (by omega)]
    have hl : ((s.data.toList.drop q).take v).length = v := by simp; have : s.data.size = s.size := rfl; omega
    have := run_convert_bytes_back (P := P) w src dst e ⟨d, q, none⟩ cap ((s.data.toList.drop q).take v) hs he hd (fun j hj => by
      rw [Addr.add_lit]
      have hj2 : q + j < s.data.size := by rw [hl] at hj; have : s.data.size = s.size := rfl; omega
      rw [h.bytes (q + j) hj2]
      simp)
    rw [hl] at this
    exact this
end Go.Proofs.Ytbhdiklhpfackaa
