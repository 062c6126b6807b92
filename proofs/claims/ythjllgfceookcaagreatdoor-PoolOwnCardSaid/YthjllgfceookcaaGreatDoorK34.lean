/-
  The walk over the document's Same of packages (layer 10). The walk over the document's Same of packages (layer 10). Conditions: as each theorem states.
-/
import Derived.Test.YthjllgfceookcaaGreatDoorK33
import Derived.BigQuiet
namespace Go.Proofs.YthjllgfceookcaaGreatDoor
open Go.RowKit Ver Evr Span Dep Rich

set_option maxRecDepth 100000 in
set_option maxHeartbeats 16000000 in
theorem rsame10_nm (nm : ByteArray) (n : Int) (v r : ByteArray) (a : Nat) (vd : ByteArray) (nm' : ByteArray) (n' : Int) (v' : ByteArray) (r' : ByteArray) (a' : Nat) (vd' : ByteArray) (s4 s5 s6 s7 s8 s9 s10 s11 s12 s4' s5' s6' s7' s8' s9' s10' s11' s12' : Value) (w : World) (hq : nm ≠ nm')
     :
    Calls Tryz.prog 25 #[.agg #[.string nm, .int .i64 n, .string v, .string r, .int .u8 (a : Int), .string vd, s4, s5, s6, s7, s8, s9, s10, s11, s12], .agg #[.string nm', .int .i64 n', .string v', .string r', .int .u8 (a' : Int), .string vd', s4', s5', s6', s7', s8', s9', s10', s11', s12']] w fun e w' => e = .returned (.bool false) ∧ Kept (fun _ => False) w w' := by
  have HX := Lib.hid ((Box.made w 48 #[.string nm, .int .i64 n, .string v, .string r, .int .u8 (a : Int), .string vd, s4, s5, s6, s7, s8, s9, s10, s11, s12]).after_alloc (.cells #[.string nm', .int .i64 n', .string v', .string r', .int .u8 (a' : Int), .string vd', s4', s5', s6', s7', s8', s9', s10', s11', s12'] 48))
  have HY := Lib.hid (show Box ((w.alloc (.cells #[.string nm, .int .i64 n, .string v, .string r, .int .u8 (a : Int), .string vd, s4, s5, s6, s7, s8, s9, s10, s11, s12] 48)).alloc (.cells #[.string nm', .int .i64 n', .string v', .string r', .int .u8 (a' : Int), .string vd', s4', s5', s6', s7', s8', s9', s10', s11', s12'] 48)) (w.heap.size + 1) 48 #[.string nm', .int .i64 n', .string v', .string r', .int .u8 (a' : Int), .string vd', s4', s5', s6', s7', s8', s9', s10', s11', s12'] from by
    have h := Box.made (w.alloc (.cells #[.string nm, .int .i64 n, .string v, .string r, .int .u8 (a : Int), .string vd, s4, s5, s6, s7, s8, s9, s10, s11, s12] 48)) 48 #[.string nm', .int .i64 n', .string v', .string r', .int .u8 (a' : Int), .string vd', s4', s5', s6', s7', s8', s9', s10', s11', s12']
    rw [World.size_alloc] at h
    exact h)
  have HK := Lib.hid (((Kept.refl (fun _ => False) w).alloc (.cells #[.string nm, .int .i64 n, .string v, .string r, .int .u8 (a : Int), .string vd, s4, s5, s6, s7, s8, s9, s10, s11, s12] 48)).alloc (.cells #[.string nm', .int .i64 n', .string v', .string r', .int .u8 (a' : Int), .string vd', s4', s5', s6', s7', s8', s9', s10', s11', s12'] 48))
  have x0 := HX.out.cell 0
  have y0 := HY.out.cell 0
  have q_nm := bytes_ne10 hq
  clear hq
  go_enter Tryz.func25, Tryz.ntmps25
  go_wp2_with (first
    | fail)
  go_ret
  exact ⟨rfl, HK.out⟩
set_option maxRecDepth 100000 in
set_option maxHeartbeats 16000000 in
theorem rsame10_n (nm : ByteArray) (n : Int) (v r : ByteArray) (a : Nat) (vd : ByteArray) (n' : Int) (v' : ByteArray) (r' : ByteArray) (a' : Nat) (vd' : ByteArray) (s4 s5 s6 s7 s8 s9 s10 s11 s12 s4' s5' s6' s7' s8' s9' s10' s11' s12' : Value) (w : World) (hq : n ≠ n')
     :
    Calls Tryz.prog 25 #[.agg #[.string nm, .int .i64 n, .string v, .string r, .int .u8 (a : Int), .string vd, s4, s5, s6, s7, s8, s9, s10, s11, s12], .agg #[.string nm, .int .i64 n', .string v', .string r', .int .u8 (a' : Int), .string vd', s4', s5', s6', s7', s8', s9', s10', s11', s12']] w fun e w' => e = .returned (.bool false) ∧ Kept (fun _ => False) w w' := by
  have HX := Lib.hid ((Box.made w 48 #[.string nm, .int .i64 n, .string v, .string r, .int .u8 (a : Int), .string vd, s4, s5, s6, s7, s8, s9, s10, s11, s12]).after_alloc (.cells #[.string nm, .int .i64 n', .string v', .string r', .int .u8 (a' : Int), .string vd', s4', s5', s6', s7', s8', s9', s10', s11', s12'] 48))
  have HY := Lib.hid (show Box ((w.alloc (.cells #[.string nm, .int .i64 n, .string v, .string r, .int .u8 (a : Int), .string vd, s4, s5, s6, s7, s8, s9, s10, s11, s12] 48)).alloc (.cells #[.string nm, .int .i64 n', .string v', .string r', .int .u8 (a' : Int), .string vd', s4', s5', s6', s7', s8', s9', s10', s11', s12'] 48)) (w.heap.size + 1) 48 #[.string nm, .int .i64 n', .string v', .string r', .int .u8 (a' : Int), .string vd', s4', s5', s6', s7', s8', s9', s10', s11', s12'] from by
    have h := Box.made (w.alloc (.cells #[.string nm, .int .i64 n, .string v, .string r, .int .u8 (a : Int), .string vd, s4, s5, s6, s7, s8, s9, s10, s11, s12] 48)) 48 #[.string nm, .int .i64 n', .string v', .string r', .int .u8 (a' : Int), .string vd', s4', s5', s6', s7', s8', s9', s10', s11', s12']
    rw [World.size_alloc] at h
    exact h)
  have HK := Lib.hid (((Kept.refl (fun _ => False) w).alloc (.cells #[.string nm, .int .i64 n, .string v, .string r, .int .u8 (a : Int), .string vd, s4, s5, s6, s7, s8, s9, s10, s11, s12] 48)).alloc (.cells #[.string nm, .int .i64 n', .string v', .string r', .int .u8 (a' : Int), .string vd', s4', s5', s6', s7', s8', s9', s10', s11', s12'] 48))
  have x0 := HX.out.cell 0
  have y0 := HY.out.cell 0
  have x1 := HX.out.cell 1
  have y1 := HY.out.cell 1
  have x2 := HX.out.cell 2
  have y2 := HY.out.cell 2
  have x3 := HX.out.cell 3
  have y3 := HY.out.cell 3
  have q_nm : (nm.toList == nm.toList) = true := by simp
  have q_n : (n == n') = false := by rw [beq_eq_false_iff_ne]; exact hq
  clear hq
  go_enter Tryz.func25, Tryz.ntmps25
  go_wp2_with (first
    | fail)
  go_ret
  exact ⟨rfl, HK.out⟩
set_option maxRecDepth 100000 in
set_option maxHeartbeats 16000000 in
theorem rsame10_v (nm : ByteArray) (n : Int) (v r : ByteArray) (a : Nat) (vd : ByteArray) (v' : ByteArray) (r' : ByteArray) (a' : Nat) (vd' : ByteArray) (s4 s5 s6 s7 s8 s9 s10 s11 s12 s4' s5' s6' s7' s8' s9' s10' s11' s12' : Value) (w : World) (hq : v ≠ v')
     :
    Calls Tryz.prog 25 #[.agg #[.string nm, .int .i64 n, .string v, .string r, .int .u8 (a : Int), .string vd, s4, s5, s6, s7, s8, s9, s10, s11, s12], .agg #[.string nm, .int .i64 n, .string v', .string r', .int .u8 (a' : Int), .string vd', s4', s5', s6', s7', s8', s9', s10', s11', s12']] w fun e w' => e = .returned (.bool false) ∧ Kept (fun _ => False) w w' := by
  have HX := Lib.hid ((Box.made w 48 #[.string nm, .int .i64 n, .string v, .string r, .int .u8 (a : Int), .string vd, s4, s5, s6, s7, s8, s9, s10, s11, s12]).after_alloc (.cells #[.string nm, .int .i64 n, .string v', .string r', .int .u8 (a' : Int), .string vd', s4', s5', s6', s7', s8', s9', s10', s11', s12'] 48))
  have HY := Lib.hid (show Box ((w.alloc (.cells #[.string nm, .int .i64 n, .string v, .string r, .int .u8 (a : Int), .string vd, s4, s5, s6, s7, s8, s9, s10, s11, s12] 48)).alloc (.cells #[.string nm, .int .i64 n, .string v', .string r', .int .u8 (a' : Int), .string vd', s4', s5', s6', s7', s8', s9', s10', s11', s12'] 48)) (w.heap.size + 1) 48 #[.string nm, .int .i64 n, .string v', .string r', .int .u8 (a' : Int), .string vd', s4', s5', s6', s7', s8', s9', s10', s11', s12'] from by
    have h := Box.made (w.alloc (.cells #[.string nm, .int .i64 n, .string v, .string r, .int .u8 (a : Int), .string vd, s4, s5, s6, s7, s8, s9, s10, s11, s12] 48)) 48 #[.string nm, .int .i64 n, .string v', .string r', .int .u8 (a' : Int), .string vd', s4', s5', s6', s7', s8', s9', s10', s11', s12']
    rw [World.size_alloc] at h
    exact h)
  have HK := Lib.hid (((Kept.refl (fun _ => False) w).alloc (.cells #[.string nm, .int .i64 n, .string v, .string r, .int .u8 (a : Int), .string vd, s4, s5, s6, s7, s8, s9, s10, s11, s12] 48)).alloc (.cells #[.string nm, .int .i64 n, .string v', .string r', .int .u8 (a' : Int), .string vd', s4', s5', s6', s7', s8', s9', s10', s11', s12'] 48))
  have x0 := HX.out.cell 0
  have y0 := HY.out.cell 0
  have x1 := HX.out.cell 1
  have y1 := HY.out.cell 1
  have x2 := HX.out.cell 2
  have y2 := HY.out.cell 2
  have x3 := HX.out.cell 3
  have y3 := HY.out.cell 3
  have q_nm : (nm.toList == nm.toList) = true := by simp
  have q_v := bytes_ne10 hq
  clear hq
  go_enter Tryz.func25, Tryz.ntmps25
  go_wp2_with (first
    | fail)
  go_ret
  exact ⟨rfl, HK.out⟩
set_option maxRecDepth 100000 in
set_option maxHeartbeats 16000000 in
theorem rsame10_r (nm : ByteArray) (n : Int) (v r : ByteArray) (a : Nat) (vd : ByteArray) (r' : ByteArray) (a' : Nat) (vd' : ByteArray) (s4 s5 s6 s7 s8 s9 s10 s11 s12 s4' s5' s6' s7' s8' s9' s10' s11' s12' : Value) (w : World) (hq : r ≠ r')
     :
    Calls Tryz.prog 25 #[.agg #[.string nm, .int .i64 n, .string v, .string r, .int .u8 (a : Int), .string vd, s4, s5, s6, s7, s8, s9, s10, s11, s12], .agg #[.string nm, .int .i64 n, .string v, .string r', .int .u8 (a' : Int), .string vd', s4', s5', s6', s7', s8', s9', s10', s11', s12']] w fun e w' => e = .returned (.bool false) ∧ Kept (fun _ => False) w w' := by
  have HX := Lib.hid ((Box.made w 48 #[.string nm, .int .i64 n, .string v, .string r, .int .u8 (a : Int), .string vd, s4, s5, s6, s7, s8, s9, s10, s11, s12]).after_alloc (.cells #[.string nm, .int .i64 n, .string v, .string r', .int .u8 (a' : Int), .string vd', s4', s5', s6', s7', s8', s9', s10', s11', s12'] 48))
  have HY := Lib.hid (show Box ((w.alloc (.cells #[.string nm, .int .i64 n, .string v, .string r, .int .u8 (a : Int), .string vd, s4, s5, s6, s7, s8, s9, s10, s11, s12] 48)).alloc (.cells #[.string nm, .int .i64 n, .string v, .string r', .int .u8 (a' : Int), .string vd', s4', s5', s6', s7', s8', s9', s10', s11', s12'] 48)) (w.heap.size + 1) 48 #[.string nm, .int .i64 n, .string v, .string r', .int .u8 (a' : Int), .string vd', s4', s5', s6', s7', s8', s9', s10', s11', s12'] from by
    have h := Box.made (w.alloc (.cells #[.string nm, .int .i64 n, .string v, .string r, .int .u8 (a : Int), .string vd, s4, s5, s6, s7, s8, s9, s10, s11, s12] 48)) 48 #[.string nm, .int .i64 n, .string v, .string r', .int .u8 (a' : Int), .string vd', s4', s5', s6', s7', s8', s9', s10', s11', s12']
    rw [World.size_alloc] at h
    exact h)
  have HK := Lib.hid (((Kept.refl (fun _ => False) w).alloc (.cells #[.string nm, .int .i64 n, .string v, .string r, .int .u8 (a : Int), .string vd, s4, s5, s6, s7, s8, s9, s10, s11, s12] 48)).alloc (.cells #[.string nm, .int .i64 n, .string v, .string r', .int .u8 (a' : Int), .string vd', s4', s5', s6', s7', s8', s9', s10', s11', s12'] 48))
  have x0 := HX.out.cell 0
  have y0 := HY.out.cell 0
  have x1 := HX.out.cell 1
  have y1 := HY.out.cell 1
  have x2 := HX.out.cell 2
  have y2 := HY.out.cell 2
  have x3 := HX.out.cell 3
  have y3 := HY.out.cell 3
  have q_nm : (nm.toList == nm.toList) = true := by simp
  have q_v : (v.toList == v.toList) = true := by simp
  have q_r := bytes_ne10 hq
  clear hq
  go_enter Tryz.func25, Tryz.ntmps25
  go_wp2_with (first
    | fail)
  go_ret
  exact ⟨rfl, HK.out⟩
set_option maxRecDepth 100000 in
set_option maxHeartbeats 16000000 in
theorem rsame10_a (nm : ByteArray) (n : Int) (v r : ByteArray) (a : Nat) (vd : ByteArray) (a' : Nat) (vd' : ByteArray) (s4 s5 s6 s7 s8 s9 s10 s11 s12 s4' s5' s6' s7' s8' s9' s10' s11' s12' : Value) (w : World) (hq : a ≠ a')
     :
    Calls Tryz.prog 25 #[.agg #[.string nm, .int .i64 n, .string v, .string r, .int .u8 (a : Int), .string vd, s4, s5, s6, s7, s8, s9, s10, s11, s12], .agg #[.string nm, .int .i64 n, .string v, .string r, .int .u8 (a' : Int), .string vd', s4', s5', s6', s7', s8', s9', s10', s11', s12']] w fun e w' => e = .returned (.bool false) ∧ Kept (fun _ => False) w w' := by
  have HX := Lib.hid ((Box.made w 48 #[.string nm, .int .i64 n, .string v, .string r, .int .u8 (a : Int), .string vd, s4, s5, s6, s7, s8, s9, s10, s11, s12]).after_alloc (.cells #[.string nm, .int .i64 n, .string v, .string r, .int .u8 (a' : Int), .string vd', s4', s5', s6', s7', s8', s9', s10', s11', s12'] 48))
  have HY := Lib.hid (show Box ((w.alloc (.cells #[.string nm, .int .i64 n, .string v, .string r, .int .u8 (a : Int), .string vd, s4, s5, s6, s7, s8, s9, s10, s11, s12] 48)).alloc (.cells #[.string nm, .int .i64 n, .string v, .string r, .int .u8 (a' : Int), .string vd', s4', s5', s6', s7', s8', s9', s10', s11', s12'] 48)) (w.heap.size + 1) 48 #[.string nm, .int .i64 n, .string v, .string r, .int .u8 (a' : Int), .string vd', s4', s5', s6', s7', s8', s9', s10', s11', s12'] from by
    have h := Box.made (w.alloc (.cells #[.string nm, .int .i64 n, .string v, .string r, .int .u8 (a : Int), .string vd, s4, s5, s6, s7, s8, s9, s10, s11, s12] 48)) 48 #[.string nm, .int .i64 n, .string v, .string r, .int .u8 (a' : Int), .string vd', s4', s5', s6', s7', s8', s9', s10', s11', s12']
    rw [World.size_alloc] at h
    exact h)
  have HK := Lib.hid (((Kept.refl (fun _ => False) w).alloc (.cells #[.string nm, .int .i64 n, .string v, .string r, .int .u8 (a : Int), .string vd, s4, s5, s6, s7, s8, s9, s10, s11, s12] 48)).alloc (.cells #[.string nm, .int .i64 n, .string v, .string r, .int .u8 (a' : Int), .string vd', s4', s5', s6', s7', s8', s9', s10', s11', s12'] 48))
  have x0 := HX.out.cell 0
  have y0 := HY.out.cell 0
  have x1 := HX.out.cell 1
  have y1 := HY.out.cell 1
  have x2 := HX.out.cell 2
  have y2 := HY.out.cell 2
  have x3 := HX.out.cell 3
  have y3 := HY.out.cell 3
  have x4 := HX.out.cell 4
  have y4 := HY.out.cell 4
  have q_nm : (nm.toList == nm.toList) = true := by simp
  have q_v : (v.toList == v.toList) = true := by simp
  have q_r : (r.toList == r.toList) = true := by simp
  have q_a : ((a : Int) == (a' : Int)) = false := by rw [beq_eq_false_iff_ne]; omega
  clear hq
  go_enter Tryz.func25, Tryz.ntmps25
  go_wp2_with (first
    | fail)
  go_ret
  exact ⟨rfl, HK.out⟩
set_option maxRecDepth 100000 in
set_option maxHeartbeats 16000000 in
theorem rsame10_vd (nm : ByteArray) (n : Int) (v r : ByteArray) (a : Nat) (vd : ByteArray) (vd' : ByteArray) (s4 s5 s6 s7 s8 s9 s10 s11 s12 s4' s5' s6' s7' s8' s9' s10' s11' s12' : Value) (w : World) (hq : vd ≠ vd')
     :
    Calls Tryz.prog 25 #[.agg #[.string nm, .int .i64 n, .string v, .string r, .int .u8 (a : Int), .string vd, s4, s5, s6, s7, s8, s9, s10, s11, s12], .agg #[.string nm, .int .i64 n, .string v, .string r, .int .u8 (a : Int), .string vd', s4', s5', s6', s7', s8', s9', s10', s11', s12']] w fun e w' => e = .returned (.bool false) ∧ Kept (fun _ => False) w w' := by
  have HX := Lib.hid ((Box.made w 48 #[.string nm, .int .i64 n, .string v, .string r, .int .u8 (a : Int), .string vd, s4, s5, s6, s7, s8, s9, s10, s11, s12]).after_alloc (.cells #[.string nm, .int .i64 n, .string v, .string r, .int .u8 (a : Int), .string vd', s4', s5', s6', s7', s8', s9', s10', s11', s12'] 48))
  have HY := Lib.hid (show Box ((w.alloc (.cells #[.string nm, .int .i64 n, .string v, .string r, .int .u8 (a : Int), .string vd, s4, s5, s6, s7, s8, s9, s10, s11, s12] 48)).alloc (.cells #[.string nm, .int .i64 n, .string v, .string r, .int .u8 (a : Int), .string vd', s4', s5', s6', s7', s8', s9', s10', s11', s12'] 48)) (w.heap.size + 1) 48 #[.string nm, .int .i64 n, .string v, .string r, .int .u8 (a : Int), .string vd', s4', s5', s6', s7', s8', s9', s10', s11', s12'] from by
    have h := Box.made (w.alloc (.cells #[.string nm, .int .i64 n, .string v, .string r, .int .u8 (a : Int), .string vd, s4, s5, s6, s7, s8, s9, s10, s11, s12] 48)) 48 #[.string nm, .int .i64 n, .string v, .string r, .int .u8 (a : Int), .string vd', s4', s5', s6', s7', s8', s9', s10', s11', s12']
    rw [World.size_alloc] at h
    exact h)
  have HK := Lib.hid (((Kept.refl (fun _ => False) w).alloc (.cells #[.string nm, .int .i64 n, .string v, .string r, .int .u8 (a : Int), .string vd, s4, s5, s6, s7, s8, s9, s10, s11, s12] 48)).alloc (.cells #[.string nm, .int .i64 n, .string v, .string r, .int .u8 (a : Int), .string vd', s4', s5', s6', s7', s8', s9', s10', s11', s12'] 48))
  have x0 := HX.out.cell 0
  have y0 := HY.out.cell 0
  have x1 := HX.out.cell 1
  have y1 := HY.out.cell 1
  have x2 := HX.out.cell 2
  have y2 := HY.out.cell 2
  have x3 := HX.out.cell 3
  have y3 := HY.out.cell 3
  have x4 := HX.out.cell 4
  have y4 := HY.out.cell 4
  have x5 := HX.out.cell 5
  have y5 := HY.out.cell 5
  have q_nm : (nm.toList == nm.toList) = true := by simp
  have q_v : (v.toList == v.toList) = true := by simp
  have q_r : (r.toList == r.toList) = true := by simp
  have q_vd := bytes_ne10 hq
  clear hq
  go_enter Tryz.func25, Tryz.ntmps25
  go_wp2_with (first
    | fail)
  go_ret
  exact ⟨rfl, HK.out⟩
end Go.Proofs.YthjllgfceookcaaGreatDoor

namespace Go.Proofs.YthjllgfceookcaaGreatDoor
open Go.RowKit Ver Evr Span Dep Rich

set_option maxRecDepth 100000 in
set_option maxHeartbeats 16000000 in
theorem rsame10_4 (nm : ByteArray) (n : Int) (v r : ByteArray) (a : Nat) (vd : ByteArray) (s4 s5 s6 s7 s8 s9 s10 s11 s12 s4' s5' s6' s7' s8' s9' s10' s11' s12' : Value) (w : World) 
    (h4 : ∀ W, Kept (fun _ => False) w W → Calls Tryz.prog 57 #[s4, s4'] W fun e w' => e = .returned (.bool false) ∧ Kept (fun _ => False) W w') :
    Calls Tryz.prog 25 #[.agg #[.string nm, .int .i64 n, .string v, .string r, .int .u8 (a : Int), .string vd, s4, s5, s6, s7, s8, s9, s10, s11, s12], .agg #[.string nm, .int .i64 n, .string v, .string r, .int .u8 (a : Int), .string vd, s4', s5', s6', s7', s8', s9', s10', s11', s12']] w fun e w' => e = .returned (.bool false) ∧ Kept (fun _ => False) w w' := by
  have HX := Lib.hid ((Box.made w 48 #[.string nm, .int .i64 n, .string v, .string r, .int .u8 (a : Int), .string vd, s4, s5, s6, s7, s8, s9, s10, s11, s12]).after_alloc (.cells #[.string nm, .int .i64 n, .string v, .string r, .int .u8 (a : Int), .string vd, s4', s5', s6', s7', s8', s9', s10', s11', s12'] 48))
  have HY := Lib.hid (show Box ((w.alloc (.cells #[.string nm, .int .i64 n, .string v, .string r, .int .u8 (a : Int), .string vd, s4, s5, s6, s7, s8, s9, s10, s11, s12] 48)).alloc (.cells #[.string nm, .int .i64 n, .string v, .string r, .int .u8 (a : Int), .string vd, s4', s5', s6', s7', s8', s9', s10', s11', s12'] 48)) (w.heap.size + 1) 48 #[.string nm, .int .i64 n, .string v, .string r, .int .u8 (a : Int), .string vd, s4', s5', s6', s7', s8', s9', s10', s11', s12'] from by
    have h := Box.made (w.alloc (.cells #[.string nm, .int .i64 n, .string v, .string r, .int .u8 (a : Int), .string vd, s4, s5, s6, s7, s8, s9, s10, s11, s12] 48)) 48 #[.string nm, .int .i64 n, .string v, .string r, .int .u8 (a : Int), .string vd, s4', s5', s6', s7', s8', s9', s10', s11', s12']
    rw [World.size_alloc] at h
    exact h)
  have HK := Lib.hid (((Kept.refl (fun _ => False) w).alloc (.cells #[.string nm, .int .i64 n, .string v, .string r, .int .u8 (a : Int), .string vd, s4, s5, s6, s7, s8, s9, s10, s11, s12] 48)).alloc (.cells #[.string nm, .int .i64 n, .string v, .string r, .int .u8 (a : Int), .string vd, s4', s5', s6', s7', s8', s9', s10', s11', s12'] 48))
  have x0 := HX.out.cell 0
  have y0 := HY.out.cell 0
  have x1 := HX.out.cell 1
  have y1 := HY.out.cell 1
  have x2 := HX.out.cell 2
  have y2 := HY.out.cell 2
  have x3 := HX.out.cell 3
  have y3 := HY.out.cell 3
  have x4 := HX.out.cell 4
  have y4 := HY.out.cell 4
  have x5 := HX.out.cell 5
  have y5 := HY.out.cell 5
  have x6 := HX.out.cell 6
  have y6 := HY.out.cell 6
  have H4 := Lib.hid h4
  have q_nm : (nm.toList == nm.toList) = true := by simp
  have q_v : (v.toList == v.toList) = true := by simp
  have q_r : (r.toList == r.toList) = true := by simp
  have q_vd : (vd.toList == vd.toList) = true := by simp
  clear h4
  go_enter Tryz.func25, Tryz.ntmps25
  go_wp2_with (first
    | (go_at_call 57; (with_reducible refine (H4.out _ HK.out).mono ?_); rintro e w5 ⟨rfl, hk5⟩; have HX := Lib.hid (hk5.box HX.out (fun h => h)); have HY := Lib.hid (hk5.box HY.out (fun h => h)); have HK := Lib.hid (Kept.trans HK.out hk5 (fun _ _ h => h)); have x6 := HX.out.cell 6; have y6 := HY.out.cell 6; clear hk5)
    | fail)
  go_ret
  exact ⟨rfl, HK.out⟩
set_option maxRecDepth 100000 in
set_option maxHeartbeats 16000000 in
theorem rsame10_5 (nm : ByteArray) (n : Int) (v r : ByteArray) (a : Nat) (vd : ByteArray) (s4 s5 s6 s7 s8 s9 s10 s11 s12 s4' s5' s6' s7' s8' s9' s10' s11' s12' : Value) (w : World) 
    (h4 : ∀ W, Kept (fun _ => False) w W → Calls Tryz.prog 57 #[s4, s4'] W fun e w' => e = .returned (.bool true) ∧ Kept (fun _ => False) W w') (h5 : ∀ W, Kept (fun _ => False) w W → Calls Tryz.prog 58 #[s5, s5'] W fun e w' => e = .returned (.bool false) ∧ Kept (fun _ => False) W w') :
    Calls Tryz.prog 25 #[.agg #[.string nm, .int .i64 n, .string v, .string r, .int .u8 (a : Int), .string vd, s4, s5, s6, s7, s8, s9, s10, s11, s12], .agg #[.string nm, .int .i64 n, .string v, .string r, .int .u8 (a : Int), .string vd, s4', s5', s6', s7', s8', s9', s10', s11', s12']] w fun e w' => e = .returned (.bool false) ∧ Kept (fun _ => False) w w' := by
  have HX := Lib.hid ((Box.made w 48 #[.string nm, .int .i64 n, .string v, .string r, .int .u8 (a : Int), .string vd, s4, s5, s6, s7, s8, s9, s10, s11, s12]).after_alloc (.cells #[.string nm, .int .i64 n, .string v, .string r, .int .u8 (a : Int), .string vd, s4', s5', s6', s7', s8', s9', s10', s11', s12'] 48))
  have HY := Lib.hid (show Box ((w.alloc (.cells #[.string nm, .int .i64 n, .string v, .string r, .int .u8 (a : Int), .string vd, s4, s5, s6, s7, s8, s9, s10, s11, s12] 48)).alloc (.cells #[.string nm, .int .i64 n, .string v, .string r, .int .u8 (a : Int), .string vd, s4', s5', s6', s7', s8', s9', s10', s11', s12'] 48)) (w.heap.size + 1) 48 #[.string nm, .int .i64 n, .string v, .string r, .int .u8 (a : Int), .string vd, s4', s5', s6', s7', s8', s9', s10', s11', s12'] from by
    have h := Box.made (w.alloc (.cells #[.string nm, .int .i64 n, .string v, .string r, .int .u8 (a : Int), .string vd, s4, s5, s6, s7, s8, s9, s10, s11, s12] 48)) 48 #[.string nm, .int .i64 n, .string v, .string r, .int .u8 (a : Int), .string vd, s4', s5', s6', s7', s8', s9', s10', s11', s12']
    rw [World.size_alloc] at h
    exact h)
  have HK := Lib.hid (((Kept.refl (fun _ => False) w).alloc (.cells #[.string nm, .int .i64 n, .string v, .string r, .int .u8 (a : Int), .string vd, s4, s5, s6, s7, s8, s9, s10, s11, s12] 48)).alloc (.cells #[.string nm, .int .i64 n, .string v, .string r, .int .u8 (a : Int), .string vd, s4', s5', s6', s7', s8', s9', s10', s11', s12'] 48))
  have x0 := HX.out.cell 0
  have y0 := HY.out.cell 0
  have x1 := HX.out.cell 1
  have y1 := HY.out.cell 1
  have x2 := HX.out.cell 2
  have y2 := HY.out.cell 2
  have x3 := HX.out.cell 3
  have y3 := HY.out.cell 3
  have x4 := HX.out.cell 4
  have y4 := HY.out.cell 4
  have x5 := HX.out.cell 5
  have y5 := HY.out.cell 5
  have x6 := HX.out.cell 6
  have y6 := HY.out.cell 6
  have x7 := HX.out.cell 7
  have y7 := HY.out.cell 7
  have H4 := Lib.hid h4
  have H5 := Lib.hid h5
  have q_nm : (nm.toList == nm.toList) = true := by simp
  have q_v : (v.toList == v.toList) = true := by simp
  have q_r : (r.toList == r.toList) = true := by simp
  have q_vd : (vd.toList == vd.toList) = true := by simp
  clear h4 h5
  go_enter Tryz.func25, Tryz.ntmps25
  go_wp2_with (first
    | (go_at_call 57; (with_reducible refine (H4.out _ HK.out).mono ?_); rintro e w5 ⟨rfl, hk5⟩; have HX := Lib.hid (hk5.box HX.out (fun h => h)); have HY := Lib.hid (hk5.box HY.out (fun h => h)); have HK := Lib.hid (Kept.trans HK.out hk5 (fun _ _ h => h)); have x6 := HX.out.cell 6; have y6 := HY.out.cell 6; have x7 := HX.out.cell 7; have y7 := HY.out.cell 7; clear hk5)
    | (go_at_call 58; (with_reducible refine (H5.out _ HK.out).mono ?_); rintro e w5 ⟨rfl, hk5⟩; have HX := Lib.hid (hk5.box HX.out (fun h => h)); have HY := Lib.hid (hk5.box HY.out (fun h => h)); have HK := Lib.hid (Kept.trans HK.out hk5 (fun _ _ h => h)); have x6 := HX.out.cell 6; have y6 := HY.out.cell 6; have x7 := HX.out.cell 7; have y7 := HY.out.cell 7; clear hk5)
    | fail)
  go_ret
  exact ⟨rfl, HK.out⟩
set_option maxRecDepth 100000 in
set_option maxHeartbeats 16000000 in
theorem rsame10_6 (nm : ByteArray) (n : Int) (v r : ByteArray) (a : Nat) (vd : ByteArray) (s4 s5 s6 s7 s8 s9 s10 s11 s12 s4' s5' s6' s7' s8' s9' s10' s11' s12' : Value) (w : World) 
    (h4 : ∀ W, Kept (fun _ => False) w W → Calls Tryz.prog 57 #[s4, s4'] W fun e w' => e = .returned (.bool true) ∧ Kept (fun _ => False) W w') (h5 : ∀ W, Kept (fun _ => False) w W → Calls Tryz.prog 58 #[s5, s5'] W fun e w' => e = .returned (.bool true) ∧ Kept (fun _ => False) W w') (h6 : ∀ W, Kept (fun _ => False) w W → Calls Tryz.prog 58 #[s6, s6'] W fun e w' => e = .returned (.bool false) ∧ Kept (fun _ => False) W w') :
    Calls Tryz.prog 25 #[.agg #[.string nm, .int .i64 n, .string v, .string r, .int .u8 (a : Int), .string vd, s4, s5, s6, s7, s8, s9, s10, s11, s12], .agg #[.string nm, .int .i64 n, .string v, .string r, .int .u8 (a : Int), .string vd, s4', s5', s6', s7', s8', s9', s10', s11', s12']] w fun e w' => e = .returned (.bool false) ∧ Kept (fun _ => False) w w' := by
  have HX := Lib.hid ((Box.made w 48 #[.string nm, .int .i64 n, .string v, .string r, .int .u8 (a : Int), .string vd, s4, s5, s6, s7, s8, s9, s10, s11, s12]).after_alloc (.cells #[.string nm, .int .i64 n, .string v, .string r, .int .u8 (a : Int), .string vd, s4', s5', s6', s7', s8', s9', s10', s11', s12'] 48))
  have HY := Lib.hid (show Box ((w.alloc (.cells #[.string nm, .int .i64 n, .string v, .string r, .int .u8 (a : Int), .string vd, s4, s5, s6, s7, s8, s9, s10, s11, s12] 48)).alloc (.cells #[.string nm, .int .i64 n, .string v, .string r, .int .u8 (a : Int), .string vd, s4', s5', s6', s7', s8', s9', s10', s11', s12'] 48)) (w.heap.size + 1) 48 #[.string nm, .int .i64 n, .string v, .string r, .int .u8 (a : Int), .string vd, s4', s5', s6', s7', s8', s9', s10', s11', s12'] from by
    have h := Box.made (w.alloc (.cells #[.string nm, .int .i64 n, .string v, .string r, .int .u8 (a : Int), .string vd, s4, s5, s6, s7, s8, s9, s10, s11, s12] 48)) 48 #[.string nm, .int .i64 n, .string v, .string r, .int .u8 (a : Int), .string vd, s4', s5', s6', s7', s8', s9', s10', s11', s12']
    rw [World.size_alloc] at h
    exact h)
  have HK := Lib.hid (((Kept.refl (fun _ => False) w).alloc (.cells #[.string nm, .int .i64 n, .string v, .string r, .int .u8 (a : Int), .string vd, s4, s5, s6, s7, s8, s9, s10, s11, s12] 48)).alloc (.cells #[.string nm, .int .i64 n, .string v, .string r, .int .u8 (a : Int), .string vd, s4', s5', s6', s7', s8', s9', s10', s11', s12'] 48))
  have x0 := HX.out.cell 0
  have y0 := HY.out.cell 0
  have x1 := HX.out.cell 1
  have y1 := HY.out.cell 1
  have x2 := HX.out.cell 2
  have y2 := HY.out.cell 2
  have x3 := HX.out.cell 3
  have y3 := HY.out.cell 3
  have x4 := HX.out.cell 4
  have y4 := HY.out.cell 4
  have x5 := HX.out.cell 5
  have y5 := HY.out.cell 5
  have x6 := HX.out.cell 6
  have y6 := HY.out.cell 6
  have x7 := HX.out.cell 7
  have y7 := HY.out.cell 7
  have x8 := HX.out.cell 8
  have y8 := HY.out.cell 8
  have H4 := Lib.hid h4
  have H5 := Lib.hid h5
  have H6 := Lib.hid h6
  have q_nm : (nm.toList == nm.toList) = true := by simp
  have q_v : (v.toList == v.toList) = true := by simp
  have q_r : (r.toList == r.toList) = true := by simp
  have q_vd : (vd.toList == vd.toList) = true := by simp
  clear h4 h5 h6
  go_enter Tryz.func25, Tryz.ntmps25
  go_wp2_with (first
    | (go_at_call 57; (with_reducible refine (H4.out _ HK.out).mono ?_); rintro e w5 ⟨rfl, hk5⟩; have HX := Lib.hid (hk5.box HX.out (fun h => h)); have HY := Lib.hid (hk5.box HY.out (fun h => h)); have HK := Lib.hid (Kept.trans HK.out hk5 (fun _ _ h => h)); have x6 := HX.out.cell 6; have y6 := HY.out.cell 6; have x7 := HX.out.cell 7; have y7 := HY.out.cell 7; have x8 := HX.out.cell 8; have y8 := HY.out.cell 8; clear hk5)
    | (go_at_call 58; (with_reducible refine (H5.out _ HK.out).mono ?_); rintro e w5 ⟨rfl, hk5⟩; have HX := Lib.hid (hk5.box HX.out (fun h => h)); have HY := Lib.hid (hk5.box HY.out (fun h => h)); have HK := Lib.hid (Kept.trans HK.out hk5 (fun _ _ h => h)); have x6 := HX.out.cell 6; have y6 := HY.out.cell 6; have x7 := HX.out.cell 7; have y7 := HY.out.cell 7; have x8 := HX.out.cell 8; have y8 := HY.out.cell 8; clear hk5)
    | (go_at_call 58; (with_reducible refine (H6.out _ HK.out).mono ?_); rintro e w5 ⟨rfl, hk5⟩; have HX := Lib.hid (hk5.box HX.out (fun h => h)); have HY := Lib.hid (hk5.box HY.out (fun h => h)); have HK := Lib.hid (Kept.trans HK.out hk5 (fun _ _ h => h)); have x6 := HX.out.cell 6; have y6 := HY.out.cell 6; have x7 := HX.out.cell 7; have y7 := HY.out.cell 7; have x8 := HX.out.cell 8; have y8 := HY.out.cell 8; clear hk5)
    | fail)
  go_ret
  exact ⟨rfl, HK.out⟩
set_option maxRecDepth 100000 in
set_option maxHeartbeats 16000000 in
theorem rsame10_7 (nm : ByteArray) (n : Int) (v r : ByteArray) (a : Nat) (vd : ByteArray) (s4 s5 s6 s7 s8 s9 s10 s11 s12 s4' s5' s6' s7' s8' s9' s10' s11' s12' : Value) (w : World) 
    (h4 : ∀ W, Kept (fun _ => False) w W → Calls Tryz.prog 57 #[s4, s4'] W fun e w' => e = .returned (.bool true) ∧ Kept (fun _ => False) W w') (h5 : ∀ W, Kept (fun _ => False) w W → Calls Tryz.prog 58 #[s5, s5'] W fun e w' => e = .returned (.bool true) ∧ Kept (fun _ => False) W w') (h6 : ∀ W, Kept (fun _ => False) w W → Calls Tryz.prog 58 #[s6, s6'] W fun e w' => e = .returned (.bool true) ∧ Kept (fun _ => False) W w') (h7 : ∀ W, Kept (fun _ => False) w W → Calls Tryz.prog 57 #[s7, s7'] W fun e w' => e = .returned (.bool false) ∧ Kept (fun _ => False) W w') :
    Calls Tryz.prog 25 #[.agg #[.string nm, .int .i64 n, .string v, .string r, .int .u8 (a : Int), .string vd, s4, s5, s6, s7, s8, s9, s10, s11, s12], .agg #[.string nm, .int .i64 n, .string v, .string r, .int .u8 (a : Int), .string vd, s4', s5', s6', s7', s8', s9', s10', s11', s12']] w fun e w' => e = .returned (.bool false) ∧ Kept (fun _ => False) w w' := by
  have HX := Lib.hid ((Box.made w 48 #[.string nm, .int .i64 n, .string v, .string r, .int .u8 (a : Int), .string vd, s4, s5, s6, s7, s8, s9, s10, s11, s12]).after_alloc (.cells #[.string nm, .int .i64 n, .string v, .string r, .int .u8 (a : Int), .string vd, s4', s5', s6', s7', s8', s9', s10', s11', s12'] 48))
  have HY := Lib.hid (show Box ((w.alloc (.cells #[.string nm, .int .i64 n, .string v, .string r, .int .u8 (a : Int), .string vd, s4, s5, s6, s7, s8, s9, s10, s11, s12] 48)).alloc (.cells #[.string nm, .int .i64 n, .string v, .string r, .int .u8 (a : Int), .string vd, s4', s5', s6', s7', s8', s9', s10', s11', s12'] 48)) (w.heap.size + 1) 48 #[.string nm, .int .i64 n, .string v, .string r, .int .u8 (a : Int), .string vd, s4', s5', s6', s7', s8', s9', s10', s11', s12'] from by
    have h := Box.made (w.alloc (.cells #[.string nm, .int .i64 n, .string v, .string r, .int .u8 (a : Int), .string vd, s4, s5, s6, s7, s8, s9, s10, s11, s12] 48)) 48 #[.string nm, .int .i64 n, .string v, .string r, .int .u8 (a : Int), .string vd, s4', s5', s6', s7', s8', s9', s10', s11', s12']
    rw [World.size_alloc] at h
    exact h)
  have HK := Lib.hid (((Kept.refl (fun _ => False) w).alloc (.cells #[.string nm, .int .i64 n, .string v, .string r, .int .u8 (a : Int), .string vd, s4, s5, s6, s7, s8, s9, s10, s11, s12] 48)).alloc (.cells #[.string nm, .int .i64 n, .string v, .string r, .int .u8 (a : Int), .string vd, s4', s5', s6', s7', s8', s9', s10', s11', s12'] 48))
  have x0 := HX.out.cell 0
  have y0 := HY.out.cell 0
  have x1 := HX.out.cell 1
  have y1 := HY.out.cell 1
  have x2 := HX.out.cell 2
  have y2 := HY.out.cell 2
  have x3 := HX.out.cell 3
  have y3 := HY.out.cell 3
  have x4 := HX.out.cell 4
  have y4 := HY.out.cell 4
  have x5 := HX.out.cell 5
  have y5 := HY.out.cell 5
  have x6 := HX.out.cell 6
  have y6 := HY.out.cell 6
  have x7 := HX.out.cell 7
  have y7 := HY.out.cell 7
  have x8 := HX.out.cell 8
  have y8 := HY.out.cell 8
  have x9 := HX.out.cell 9
  have y9 := HY.out.cell 9
  have H4 := Lib.hid h4
  have H5 := Lib.hid h5
  have H6 := Lib.hid h6
  have H7 := Lib.hid h7
  have q_nm : (nm.toList == nm.toList) = true := by simp
  have q_v : (v.toList == v.toList) = true := by simp
  have q_r : (r.toList == r.toList) = true := by simp
  have q_vd : (vd.toList == vd.toList) = true := by simp
  clear h4 h5 h6 h7
  go_enter Tryz.func25, Tryz.ntmps25
  go_wp2_with (first
    | (go_at_call 57; (with_reducible refine (H4.out _ HK.out).mono ?_); rintro e w5 ⟨rfl, hk5⟩; have HX := Lib.hid (hk5.box HX.out (fun h => h)); have HY := Lib.hid (hk5.box HY.out (fun h => h)); have HK := Lib.hid (Kept.trans HK.out hk5 (fun _ _ h => h)); have x6 := HX.out.cell 6; have y6 := HY.out.cell 6; have x7 := HX.out.cell 7; have y7 := HY.out.cell 7; have x8 := HX.out.cell 8; have y8 := HY.out.cell 8; have x9 := HX.out.cell 9; have y9 := HY.out.cell 9; clear hk5)
    | (go_at_call 58; (with_reducible refine (H5.out _ HK.out).mono ?_); rintro e w5 ⟨rfl, hk5⟩; have HX := Lib.hid (hk5.box HX.out (fun h => h)); have HY := Lib.hid (hk5.box HY.out (fun h => h)); have HK := Lib.hid (Kept.trans HK.out hk5 (fun _ _ h => h)); have x6 := HX.out.cell 6; have y6 := HY.out.cell 6; have x7 := HX.out.cell 7; have y7 := HY.out.cell 7; have x8 := HX.out.cell 8; have y8 := HY.out.cell 8; have x9 := HX.out.cell 9; have y9 := HY.out.cell 9; clear hk5)
    | (go_at_call 58; (with_reducible refine (H6.out _ HK.out).mono ?_); rintro e w5 ⟨rfl, hk5⟩; have HX := Lib.hid (hk5.box HX.out (fun h => h)); have HY := Lib.hid (hk5.box HY.out (fun h => h)); have HK := Lib.hid (Kept.trans HK.out hk5 (fun _ _ h => h)); have x6 := HX.out.cell 6; have y6 := HY.out.cell 6; have x7 := HX.out.cell 7; have y7 := HY.out.cell 7; have x8 := HX.out.cell 8; have y8 := HY.out.cell 8; have x9 := HX.out.cell 9; have y9 := HY.out.cell 9; clear hk5)
    | (go_at_call 57; (with_reducible refine (H7.out _ HK.out).mono ?_); rintro e w5 ⟨rfl, hk5⟩; have HX := Lib.hid (hk5.box HX.out (fun h => h)); have HY := Lib.hid (hk5.box HY.out (fun h => h)); have HK := Lib.hid (Kept.trans HK.out hk5 (fun _ _ h => h)); have x6 := HX.out.cell 6; have y6 := HY.out.cell 6; have x7 := HX.out.cell 7; have y7 := HY.out.cell 7; have x8 := HX.out.cell 8; have y8 := HY.out.cell 8; have x9 := HX.out.cell 9; have y9 := HY.out.cell 9; clear hk5)
    | fail)
  go_ret
  exact ⟨rfl, HK.out⟩
set_option maxRecDepth 100000 in
set_option maxHeartbeats 16000000 in
theorem rsame10_8 (nm : ByteArray) (n : Int) (v r : ByteArray) (a : Nat) (vd : ByteArray) (s4 s5 s6 s7 s8 s9 s10 s11 s12 s4' s5' s6' s7' s8' s9' s10' s11' s12' : Value) (w : World) 
    (h4 : ∀ W, Kept (fun _ => False) w W → Calls Tryz.prog 57 #[s4, s4'] W fun e w' => e = .returned (.bool true) ∧ Kept (fun _ => False) W w') (h5 : ∀ W, Kept (fun _ => False) w W → Calls Tryz.prog 58 #[s5, s5'] W fun e w' => e = .returned (.bool true) ∧ Kept (fun _ => False) W w') (h6 : ∀ W, Kept (fun _ => False) w W → Calls Tryz.prog 58 #[s6, s6'] W fun e w' => e = .returned (.bool true) ∧ Kept (fun _ => False) W w') (h7 : ∀ W, Kept (fun _ => False) w W → Calls Tryz.prog 57 #[s7, s7'] W fun e w' => e = .returned (.bool true) ∧ Kept (fun _ => False) W w') (h8 : ∀ W, Kept (fun _ => False) w W → Calls Tryz.prog 58 #[s8, s8'] W fun e w' => e = .returned (.bool false) ∧ Kept (fun _ => False) W w') :
    Calls Tryz.prog 25 #[.agg #[.string nm, .int .i64 n, .string v, .string r, .int .u8 (a : Int), .string vd, s4, s5, s6, s7, s8, s9, s10, s11, s12], .agg #[.string nm, .int .i64 n, .string v, .string r, .int .u8 (a : Int), .string vd, s4', s5', s6', s7', s8', s9', s10', s11', s12']] w fun e w' => e = .returned (.bool false) ∧ Kept (fun _ => False) w w' := by
  have HX := Lib.hid ((Box.made w 48 #[.string nm, .int .i64 n, .string v, .string r, .int .u8 (a : Int), .string vd, s4, s5, s6, s7, s8, s9, s10, s11, s12]).after_alloc (.cells #[.string nm, .int .i64 n, .string v, .string r, .int .u8 (a : Int), .string vd, s4', s5', s6', s7', s8', s9', s10', s11', s12'] 48))
  have HY := Lib.hid (show Box ((w.alloc (.cells #[.string nm, .int .i64 n, .string v, .string r, .int .u8 (a : Int), .string vd, s4, s5, s6, s7, s8, s9, s10, s11, s12] 48)).alloc (.cells #[.string nm, .int .i64 n, .string v, .string r, .int .u8 (a : Int), .string vd, s4', s5', s6', s7', s8', s9', s10', s11', s12'] 48)) (w.heap.size + 1) 48 #[.string nm, .int .i64 n, .string v, .string r, .int .u8 (a : Int), .string vd, s4', s5', s6', s7', s8', s9', s10', s11', s12'] from by
    have h := Box.made (w.alloc (.cells #[.string nm, .int .i64 n, .string v, .string r, .int .u8 (a : Int), .string vd, s4, s5, s6, s7, s8, s9, s10, s11, s12] 48)) 48 #[.string nm, .int .i64 n, .string v, .string r, .int .u8 (a : Int), .string vd, s4', s5', s6', s7', s8', s9', s10', s11', s12']
    rw [World.size_alloc] at h
    exact h)
  have HK := Lib.hid (((Kept.refl (fun _ => False) w).alloc (.cells #[.string nm, .int .i64 n, .string v, .string r, .int .u8 (a : Int), .string vd, s4, s5, s6, s7, s8, s9, s10, s11, s12] 48)).alloc (.cells #[.string nm, .int .i64 n, .string v, .string r, .int .u8 (a : Int), .string vd, s4', s5', s6', s7', s8', s9', s10', s11', s12'] 48))
  have x0 := HX.out.cell 0
  have y0 := HY.out.cell 0
  have x1 := HX.out.cell 1
  have y1 := HY.out.cell 1
  have x2 := HX.out.cell 2
  have y2 := HY.out.cell 2
  have x3 := HX.out.cell 3
  have y3 := HY.out.cell 3
  have x4 := HX.out.cell 4
  have y4 := HY.out.cell 4
  have x5 := HX.out.cell 5
  have y5 := HY.out.cell 5
  have x6 := HX.out.cell 6
  have y6 := HY.out.cell 6
  have x7 := HX.out.cell 7
  have y7 := HY.out.cell 7
  have x8 := HX.out.cell 8
  have y8 := HY.out.cell 8
  have x9 := HX.out.cell 9
  have y9 := HY.out.cell 9
  have x10 := HX.out.cell 10
  have y10 := HY.out.cell 10
  have H4 := Lib.hid h4
  have H5 := Lib.hid h5
  have H6 := Lib.hid h6
  have H7 := Lib.hid h7
  have H8 := Lib.hid h8
  have q_nm : (nm.toList == nm.toList) = true := by simp
  have q_v : (v.toList == v.toList) = true := by simp
  have q_r : (r.toList == r.toList) = true := by simp
  have q_vd : (vd.toList == vd.toList) = true := by simp
  clear h4 h5 h6 h7 h8
  go_enter Tryz.func25, Tryz.ntmps25
  go_wp2_with (first
    | (go_at_call 57; (with_reducible refine (H4.out _ HK.out).mono ?_); rintro e w5 ⟨rfl, hk5⟩; have HX := Lib.hid (hk5.box HX.out (fun h => h)); have HY := Lib.hid (hk5.box HY.out (fun h => h)); have HK := Lib.hid (Kept.trans HK.out hk5 (fun _ _ h => h)); have x6 := HX.out.cell 6; have y6 := HY.out.cell 6; have x7 := HX.out.cell 7; have y7 := HY.out.cell 7; have x8 := HX.out.cell 8; have y8 := HY.out.cell 8; have x9 := HX.out.cell 9; have y9 := HY.out.cell 9; have x10 := HX.out.cell 10; have y10 := HY.out.cell 10; clear hk5)
    | (go_at_call 58; (with_reducible refine (H5.out _ HK.out).mono ?_); rintro e w5 ⟨rfl, hk5⟩; have HX := Lib.hid (hk5.box HX.out (fun h => h)); have HY := Lib.hid (hk5.box HY.out (fun h => h)); have HK := Lib.hid (Kept.trans HK.out hk5 (fun _ _ h => h)); have x6 := HX.out.cell 6; have y6 := HY.out.cell 6; have x7 := HX.out.cell 7; have y7 := HY.out.cell 7; have x8 := HX.out.cell 8; have y8 := HY.out.cell 8; have x9 := HX.out.cell 9; have y9 := HY.out.cell 9; have x10 := HX.out.cell 10; have y10 := HY.out.cell 10; clear hk5)
    | (go_at_call 58; (with_reducible refine (H6.out _ HK.out).mono ?_); rintro e w5 ⟨rfl, hk5⟩; have HX := Lib.hid (hk5.box HX.out (fun h => h)); have HY := Lib.hid (hk5.box HY.out (fun h => h)); have HK := Lib.hid (Kept.trans HK.out hk5 (fun _ _ h => h)); have x6 := HX.out.cell 6; have y6 := HY.out.cell 6; have x7 := HX.out.cell 7; have y7 := HY.out.cell 7; have x8 := HX.out.cell 8; have y8 := HY.out.cell 8; have x9 := HX.out.cell 9; have y9 := HY.out.cell 9; have x10 := HX.out.cell 10; have y10 := HY.out.cell 10; clear hk5)
    | (go_at_call 57; (with_reducible refine (H7.out _ HK.out).mono ?_); rintro e w5 ⟨rfl, hk5⟩; have HX := Lib.hid (hk5.box HX.out (fun h => h)); have HY := Lib.hid (hk5.box HY.out (fun h => h)); have HK := Lib.hid (Kept.trans HK.out hk5 (fun _ _ h => h)); have x6 := HX.out.cell 6; have y6 := HY.out.cell 6; have x7 := HX.out.cell 7; have y7 := HY.out.cell 7; have x8 := HX.out.cell 8; have y8 := HY.out.cell 8; have x9 := HX.out.cell 9; have y9 := HY.out.cell 9; have x10 := HX.out.cell 10; have y10 := HY.out.cell 10; clear hk5)
    | (go_at_call 58; (with_reducible refine (H8.out _ HK.out).mono ?_); rintro e w5 ⟨rfl, hk5⟩; have HX := Lib.hid (hk5.box HX.out (fun h => h)); have HY := Lib.hid (hk5.box HY.out (fun h => h)); have HK := Lib.hid (Kept.trans HK.out hk5 (fun _ _ h => h)); have x6 := HX.out.cell 6; have y6 := HY.out.cell 6; have x7 := HX.out.cell 7; have y7 := HY.out.cell 7; have x8 := HX.out.cell 8; have y8 := HY.out.cell 8; have x9 := HX.out.cell 9; have y9 := HY.out.cell 9; have x10 := HX.out.cell 10; have y10 := HY.out.cell 10; clear hk5)
    | fail)
  go_ret
  exact ⟨rfl, HK.out⟩
end Go.Proofs.YthjllgfceookcaaGreatDoor
