/-
  What is asked of nil (layer 13); parts of rows of packages. What the slots of a region hold: literals, rows of packages, repositories, an index (layer 13). Conditions: as each theorem states.
-/
import Derived.Test.YtpdoeapjdifmbaaGreatDoorK37
import Derived.Test.YtpdoeapjdifmbaaGreatDoorK03
namespace Go.Proofs.YtpdoeapjdifmbaaGreatDoor
open Go.RowKit Ver Evr Span Dep Rich

set_option maxRecDepth 100000 in
set_option maxHeartbeats 2000000 in
theorem prov_nil13 (d : De) (w : World) : Calls Tryz.prog 32 #[.pointer none, .agg #[.string d.nm, .int .u8 (d.o : Int), .int .i64 d.n, .string d.v, .string d.r]] w fun e w' => e = .returned (.slice none 0 0) ∧ Kept (fun _ => False) w w' := by
  have hk := Kept.refl (fun _ => False) w
  go_enter Tryz.func32, Tryz.ntmps32
  go_wp2_with fail
  go_ret
  exact ⟨rfl, by first | exact Kept.refl _ _ | exact ((Kept.refl (fun _ => False) w).alloc _) | exact (((Kept.refl (fun _ => False) w).alloc _).alloc _)⟩
set_option maxRecDepth 100000 in
set_option maxHeartbeats 2000000 in
theorem named_nil13 (d : De) (w : World) : Calls Tryz.prog 34 #[.pointer none, .agg #[.string d.nm, .int .u8 (d.o : Int), .int .i64 d.n, .string d.v, .string d.r]] w fun e w' => e = .returned (.slice none 0 0) ∧ Kept (fun _ => False) w w' := by
  have hk := Kept.refl (fun _ => False) w
  go_enter Tryz.func34, Tryz.ntmps34
  go_wp2_with fail
  go_ret
  exact ⟨rfl, by first | exact Kept.refl _ _ | exact ((Kept.refl (fun _ => False) w).alloc _) | exact (((Kept.refl (fun _ => False) w).alloc _).alloc _)⟩
set_option maxRecDepth 100000 in
set_option maxHeartbeats 2000000 in
theorem has_nil13 (n : Int) (w : World) : Calls Tryz.prog 64 #[.pointer none, .int .i64 n] w fun e w' => e = .returned (.bool false) ∧ Kept (fun _ => False) w w' := by
  have hk := Kept.refl (fun _ => False) w
  go_enter Tryz.func64, Tryz.ntmps64
  go_wp2_with fail
  go_ret
  exact ⟨rfl, by first | exact Kept.refl _ _ | exact ((Kept.refl (fun _ => False) w).alloc _) | exact (((Kept.refl (fun _ => False) w).alloc _).alloc _)⟩
set_option maxRecDepth 100000 in
set_option maxHeartbeats 2000000 in
theorem obd_nil13 (n : Int) (w : World) : Calls Tryz.prog 35 #[.pointer none, .int .i64 n] w fun e w' => e = .returned (.slice none 0 0) ∧ Kept (fun _ => False) w w' := by
  go_enter Tryz.func35, Tryz.ntmps35
  go_wp2_with fail
  refine (has_nil13 n _).mono ?_
  rintro e w2 ⟨rfl, hk2⟩
  go_wp2_with fail
  go_ret
  exact ⟨rfl, (((Kept.refl (fun _ => False) w).alloc _).alloc _).trans hk2 (fun _ _ h => h)⟩
set_option maxRecDepth 100000 in
set_option maxHeartbeats 2000000 in
theorem obr_nil13 (n : Int) (w : World) : Calls Tryz.prog 36 #[.pointer none, .int .i64 n] w fun e w' => e = .returned (.slice none 0 0) ∧ Kept (fun _ => False) w w' := by
  go_enter Tryz.func36, Tryz.ntmps36
  go_wp2_with fail
  refine (has_nil13 n _).mono ?_
  rintro e w2 ⟨rfl, hk2⟩
  go_wp2_with fail
  go_ret
  exact ⟨rfl, (((Kept.refl (fun _ => False) w).alloc _).alloc _).trans hk2 (fun _ _ h => h)⟩
set_option maxRecDepth 100000 in
set_option maxHeartbeats 2000000 in
theorem new_nil13 (w : World) : Calls Tryz.prog 30 #[.pointer none] w fun e w' => e = .returned (.tuple #[.pointer none, .int .i64 2]) ∧ Kept (fun _ => False) w w' := by
  go_enter Tryz.func30, Tryz.ntmps30
  go_wp2_with fail
  go_ret2
  exact ⟨rfl, Kept.refl _ _⟩
theorem pks_take13 {w : World} {ao : Option Addr} {k n cp : Nat} {l : List Pk} (h : PksS w (.slice ao n cp) l) (hk : k ≤ l.length) : PksS w (.slice ao k cp) (l.take k) := by
  obtain ⟨ao', cp', e, h1⟩ := h
  injection e with e1 e2 e3
  subst e1 e3
  refine ⟨ao, cp, by rw [List.length_take, Nat.min_eq_left hk], fun i p hp => ?_⟩
  rw [List.getElem?_take] at hp
  split at hp
  · exact h1 i p hp
  · cases hp
theorem pks_drop13 {w : World} {b off k n cp c2 : Nat} {l : List Pk} (h : PksS w (.slice (some ⟨b, off, none⟩) n cp) l) : PksS w (.slice (some ⟨b, off + k * 15, none⟩) (l.length - k) c2) (l.drop k) := by
  obtain ⟨ao', cp', e, h1⟩ := h
  injection e with e1 e2 e3
  subst e1 e3
  refine ⟨_, _, by rw [List.length_drop], fun i p hp => ?_⟩
  rw [List.getElem?_drop] at hp
  obtain ⟨b', off', s, e, hb, hc, hP⟩ := h1 (k + i) p hp
  injection e with e
  injection e with e e' _
  subst e e'
  exact ⟨b, off + k * 15, s, rfl, hb, fun j x hx => by rw [show off + k * 15 + i * 15 + j = off + (k + i) * 15 + j by omega]; exact hc j x hx, hP⟩
end Go.Proofs.YtpdoeapjdifmbaaGreatDoor

namespace Go.Proofs.YtpdoeapjdifmbaaGreatDoor
open Go.RowKit Rich

inductive KdY where
  | any
  | lit (v : Value)
  | three (ps : List Pk)
  | pks (ps : List Pk)
  | rep (ps : List Pk)
  | rps (l : List Rp)
  | tup (ps : List Pk)
  | idx (ps : List Pk)
def KdYS : KdY → World → Value → Prop
  | .any, _, _ => True
  | .lit u, _, v => v = u
  | .three ps, w, v => ∃ g : Nat, v = .slice (some ⟨g, 0, none⟩) 3 3 ∧ PksS w (.slice (some ⟨g, 0, none⟩) 3 3) ps
  | .pks ps, w, v => PksS w v ps
  | .rep ps, w, v => ∃ u, v = .agg #[.int .i64 0, u] ∧ PksS w u ps
  | .rps l, w, v => RpsS w v l
  | .tup ps, w, v => ∃ xb pb : Nat, v = .tuple #[.pointer (some ⟨xb, 0, none⟩), .pointer (some ⟨pb, 0, none⟩), .bool true] ∧ ∃ lo, IS lo w xb ps
  | .idx ps, w, v => ∃ xb : Nat, v = .pointer (some ⟨xb, 0, none⟩) ∧ ∃ lo, IS lo w xb ps
theorem KdYS.kept : ∀ (k : KdY) {w w' : World} {v : Value}, Kept (fun _ => False) w w' → KdYS k w v → KdYS k w' v
  | .any, _, _, _, _, _ => trivial
  | .lit _, _, _, _, _, h => h
  | .three _, _, _, _, hk, ⟨g, h1, h2⟩ => ⟨g, h1, h2.kept hk⟩
  | .pks _, _, _, _, hk, h => PksS.kept h hk
  | .rep _, _, _, _, hk, ⟨u, h1, h2⟩ => ⟨u, h1, h2.kept hk⟩
  | .rps _, _, _, _, hk, h => RpsS.kept h hk
  | .tup _, _, _, _, hk, ⟨x, p, h1, lo, h2⟩ => ⟨x, p, h1, lo, h2.quiet hk⟩
  | .idx _, _, _, _, hk, ⟨x, h1, lo, h2⟩ => ⟨x, h1, lo, h2.quiet hk⟩
def SY (tbl : List KdY) (j : Nat) (w : World) (v : Value) : Prop := KdYS (tbl.getD j .any) w v
theorem SY.kept (tbl : List KdY) (j : Nat) (w w' : World) (v : Value) (hk : Kept (fun _ => False) w w') (h : SY tbl j w v) : SY tbl j w' v := KdYS.kept _ hk h
theorem SY.mk {tbl : List KdY} {j : Nat} {w : World} {v : Value} {k : KdY} (h : tbl.getD j .any = k) (hv : KdYS k w v) : SY tbl j w v := by
  unfold SY
  rw [h]
  exact hv
theorem SY.get {tbl : List KdY} {j : Nat} {w : World} {v : Value} {k : KdY} (h : tbl.getD j .any = k) (hv : SY tbl j w v) : KdYS k w v := by
  unfold SY at hv
  rwa [h] at hv
/-- Two repositories, in a new slice. -/
theorem rps_two13 {w : World} {u1 u2 : Value} {p1 p2 : List Pk} (h1 : PksS w u1 p1) (h2 : PksS w u2 p2) : RpsS (w.alloc (.cells #[.int .i64 0, u1, .int .i64 0, u2] 57)) (.slice (some ⟨w.heap.size, 0, none⟩) 2 2) [(0, p1), (0, p2)] := by
  have hb := Box.made w 57 #[.int .i64 0, u1, .int .i64 0, u2]
  have hk := (Kept.refl (fun _ => False) w).alloc (.cells #[.int .i64 0, u1, .int .i64 0, u2] 57)
  refine ⟨_, _, rfl, fun i r hr => ?_⟩
  match i, hr with
  | 0, hr =>
    obtain rfl : (0, p1) = r := by simpa using hr
    exact ⟨w.heap.size, 0, u1, rfl, hb.lt, hb.cell 0, hb.cell 1, h1.kept hk⟩
  | 1, hr =>
    obtain rfl : (0, p2) = r := by simpa using hr
    exact ⟨w.heap.size, 0, u2, rfl, hb.lt, hb.cell 2, hb.cell 3, h2.kept hk⟩
  | i + 2, hr => simp at hr
end Go.Proofs.YtpdoeapjdifmbaaGreatDoor
