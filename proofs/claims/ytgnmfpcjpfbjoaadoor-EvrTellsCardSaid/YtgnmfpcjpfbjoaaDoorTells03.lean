/-
  The walk over the law EvrTells. Conditions: as each theorem states.
-/
import Derived.Test.YtgnmfpcjpfbjoaaDoorFace03
import Derived.Test.YtgnmfpcjpfbjoaaDoorClass
namespace Go.Proofs.YtgnmfpcjpfbjoaaDoor
open Go.RowKit Ver Evr

theorem large_yes {n : Int} {v r : ByteArray} (h : ¬ (v.size ≤ 300 ∧ r.size ≤ 300)) (w : World) : Calls Tryd.prog 15 #[.agg #[.int .i64 n, .string v, .string r]] w fun e w' => e = .returned (.bool true) ∧ Kept (fun _ => False) w w' := by
  have e : (decide (300 < v.size) || decide (300 < r.size)) = true := by simp; omega
  exact e ▸ large_walk n v r w
theorem large_no {n : Int} {v r : ByteArray} (h1 : v.size ≤ 300) (h2 : r.size ≤ 300) (w : World) : Calls Tryd.prog 15 #[.agg #[.int .i64 n, .string v, .string r]] w fun e w' => e = .returned (.bool false) ∧ Kept (fun _ => False) w w' := by
  have e : (decide (300 < v.size) || decide (300 < r.size)) = false := by simp; omega
  exact e ▸ large_walk n v r w
theorem show_parts (n : Int) (v r : ByteArray) : ∃ (t : ByteArray) (er : Int), showR n v r = .tuple #[.string t, .int .i64 er] := by
  unfold showR
  split
  · exact ⟨_, _, rfl⟩
  · exact ⟨_, _, rfl⟩

set_option maxRecDepth 100000 in
set_option maxHeartbeats 2000000 in
theorem tells3_walk (w : World) (hM : MayK3) (hS : ShowK3 w) (hP : ParseK3 w) (hC : CompareK3) (n m : Int) (v r u x s : ByteArray) :
    Calls Tryd.prog 4 #[.agg #[.int .i64 n, .string v, .string r], .agg #[.int .i64 m, .string u, .string x], .string s] w fun e w' => e = .returned (.bool true) ∧ Kept (fun _ => False) w w' := by
  by_cases hA : v.size ≤ 300 ∧ r.size ≤ 300
  · have L1 := fun w => @large_no n v r hA.1 hA.2 w
    by_cases hB : u.size ≤ 300 ∧ x.size ≤ 300
    · have L2 := fun w => @large_no m u x hB.1 hB.2 w
      by_cases hs : s.size ≤ 1000
      · have n1 : ¬ ((1000 : Int) < (s.size : Int)) := by omega
        have S1 := fun w => hS n v r w (by omega) (by omega)
        have S2 := fun w => show_walk n v r w (by omega) (by omega)
        have P1 := fun w => hP s w (by omega)
        have P2 := fun w => parse_walk s w (by omega)
        have M1 := fun w => hM n v r true w (by omega) (by omega)
        have M2 := fun w => may_walk n v r true w (by omega) (by omega)
        have M3 := fun w => hM n v r false w (by omega) (by omega)
        have M4 := fun w => may_walk n v r false w (by omega) (by omega)
        have C1 := fun w => hC n m v r u x w (by omega) (by omega) (by omega) (by omega)
        have C2 := fun w => compare3_walk n m v r u x w (by omega) (by omega) (by omega) (by omega)
        obtain ⟨t, er, ht⟩ := show_parts n v r
        obtain ⟨pn, pv, pr, per, hp, _⟩ := parse_parts s.data.toList
        rw [ht] at S1 S2
        rw [hp] at P1 P2
        unfold evrV at S2 M2 M4 C2
        generalize mayE (evrE n v r) true = b1 at M1 M2
        generalize mayE (evrE n v r) false = b2 at M3 M4
        generalize cmpE (evrE n v r) (evrE m u x) = cc at C1 C2
        clear ht hp
        have hk0 : Kept (fun _ => False) w ((w.alloc (.cells #[.int .i64 n, .string v, .string r] 30)).alloc (.cells #[.int .i64 m, .string u, .string x] 30)) := ((Kept.refl _ _).alloc _).alloc _
        have HK := Lib.hid hk0
        have bA := (Box.made w 30 #[.int .i64 n, .string v, .string r]).after_alloc (.cells #[.int .i64 m, .string u, .string x] 30)
        have bB := Box.made (w.alloc (.cells #[.int .i64 n, .string v, .string r] 30)) 30 #[.int .i64 m, .string u, .string x]
        rw [World.size_alloc] at bB
        have HA := Lib.hid bA
        have HB := Lib.hid bB
        clear hk0 bA bB
        go_enter Tryd.func4, Tryd.ntmps4
        go_wp2_with (first
          | (go_at_call 15; (first | (with_reducible refine (L1 _).mono ?_) | (with_reducible refine (L2 _).mono ?_)); rintro e w5 ⟨rfl, hk5⟩; have HA := Lib.hid (hk5.box HA.out (fun h => h)); have HB := Lib.hid (hk5.box HB.out (fun h => h)); have a0 := HA.out.cell 0; have a1 := HA.out.cell 1; have a2 := HA.out.cell 2; have b0 := HB.out.cell 0; have b1 := HB.out.cell 1; have b2 := HB.out.cell 2; have HK := Lib.hid (Kept.trans HK.out hk5 (fun _ _ h => h)); clear hk5)
          | (go_at_call 11; with_reducible refine (S1 _ HK.out).mono ?_; rintro e w5 ⟨rfl, hk5⟩; have HA := Lib.hid (hk5.box HA.out (fun h => h)); have HB := Lib.hid (hk5.box HB.out (fun h => h)); have a0 := HA.out.cell 0; have a1 := HA.out.cell 1; have a2 := HA.out.cell 2; have b0 := HB.out.cell 0; have b1 := HB.out.cell 1; have b2 := HB.out.cell 2; have HK := Lib.hid (Kept.trans HK.out hk5 (fun _ _ h => h)); clear hk5)
          | (go_at_call 16; with_reducible refine (S2 _).mono ?_; rintro e w5 ⟨rfl, hk5⟩; have HA := Lib.hid (hk5.box HA.out (fun h => h)); have HB := Lib.hid (hk5.box HB.out (fun h => h)); have a0 := HA.out.cell 0; have a1 := HA.out.cell 1; have a2 := HA.out.cell 2; have b0 := HB.out.cell 0; have b1 := HB.out.cell 1; have b2 := HB.out.cell 2; have HK := Lib.hid (Kept.trans HK.out hk5 (fun _ _ h => h)); clear hk5)
          | (go_at_call 17; with_reducible refine (P1 _ HK.out).mono ?_; rintro e w5 ⟨rfl, hk5⟩; have HA := Lib.hid (hk5.box HA.out (fun h => h)); have HB := Lib.hid (hk5.box HB.out (fun h => h)); have a0 := HA.out.cell 0; have a1 := HA.out.cell 1; have a2 := HA.out.cell 2; have b0 := HB.out.cell 0; have b1 := HB.out.cell 1; have b2 := HB.out.cell 2; have HK := Lib.hid (Kept.trans HK.out hk5 (fun _ _ h => h)); clear hk5)
          | (go_at_call 18; with_reducible refine (P2 _).mono ?_; rintro e w6 ⟨rfl, hk6⟩; have HX := Lib.hid (hk6.box (Box.made w5 30 #[.int .i64 pn, .string pv, .string pr]) (fun h => h)); have HA := Lib.hid (hk6.box (HA.out.after_alloc _) (fun h => h)); have HB := Lib.hid (hk6.box (HB.out.after_alloc _) (fun h => h)); have HK := Lib.hid (Kept.trans (HK.out.alloc _) hk6 (fun _ _ h => h)); clear hk6)
          | fail)
        obtain ⟨T, F, t0, ht0, hFk, hFs⟩ := class_of (w6.alloc (.cells #[.int .i64 pn, .string pv, .string pr] 30))
        have fA := fun t => (hFk t).box (HA.out.after_alloc (.cells #[.int .i64 pn, .string pv, .string pr] 30)) (fun h => h)
        have fB := fun t => (hFk t).box (HB.out.after_alloc (.cells #[.int .i64 pn, .string pv, .string pr] 30)) (fun h => h)
        have fX := fun t => (hFk t).box (HX.out.after_alloc (.cells #[.int .i64 pn, .string pv, .string pr] 30)) (fun h => h)
        have fY := fun t => (hFk t).box (Box.made w6 30 #[.int .i64 pn, .string pv, .string pr]) (fun h => h)
        have qa0 : ∀ t, (F t).cell? ⟨w.heap.size, 0, none⟩ = some (.int .i64 n) := fun t => (fA t).cell 0
        have qa1 : ∀ t, (F t).cell? ⟨w.heap.size, 1, none⟩ = some (.string v) := fun t => (fA t).cell 1
        have qa2 : ∀ t, (F t).cell? ⟨w.heap.size, 2, none⟩ = some (.string r) := fun t => (fA t).cell 2
        have qb0 : ∀ t, (F t).cell? ⟨w.heap.size + 1, 0, none⟩ = some (.int .i64 m) := fun t => (fB t).cell 0
        have qb1 : ∀ t, (F t).cell? ⟨w.heap.size + 1, 1, none⟩ = some (.string u) := fun t => (fB t).cell 1
        have qb2 : ∀ t, (F t).cell? ⟨w.heap.size + 1, 2, none⟩ = some (.string x) := fun t => (fB t).cell 2
        have qx0 : ∀ t, (F t).cell? ⟨w5.heap.size, 0, none⟩ = some (.int .i64 pn) := fun t => (fX t).cell 0
        have qx1 : ∀ t, (F t).cell? ⟨w5.heap.size, 1, none⟩ = some (.string pv) := fun t => (fX t).cell 1
        have qx2 : ∀ t, (F t).cell? ⟨w5.heap.size, 2, none⟩ = some (.string pr) := fun t => (fX t).cell 2
        have qy0 : ∀ t, (F t).cell? ⟨w6.heap.size, 0, none⟩ = some (.int .i64 pn) := fun t => (fY t).cell 0
        have qy1 : ∀ t, (F t).cell? ⟨w6.heap.size, 1, none⟩ = some (.string pv) := fun t => (fY t).cell 1
        have qy2 : ∀ t, (F t).cell? ⟨w6.heap.size, 2, none⟩ = some (.string pr) := fun t => (fY t).cell 2
        have HFK := Lib.hid hFk
        have HFS := Lib.hid hFs
        clear hFk hFs fA fB fX fY
        have hne : Nonempty T := ⟨t0⟩
        refine wp_region_class F t0 ht0 (by kernel_rfl) (by kernel_rfl) ?_
        repeat (go_big_quiet_step (first
          | (go_at_call 13; first | with_reducible exact class_call HFS.out (M1 _) | with_reducible exact class_call HFS.out (M3 _))
          | (go_at_call 19; first | with_reducible exact class_call HFS.out (M2 _) | with_reducible exact class_call HFS.out (M4 _))
          | (go_at_call 14; with_reducible exact class_call HFS.out (C1 _))
          | (go_at_call 20; with_reducible exact class_call HFS.out (C2 _))))
        refine wpQuiet_nil ?_
        rintro _ ⟨tz, rfl⟩
        have hkz := (HK.out.alloc (.cells #[.int .i64 pn, .string pv, .string pr] 30)).trans (HFK.out tz) (fun _ _ h => h)
        go_wp2_with fail
        go_ret
        exact ⟨rfl, hkz⟩
      · have n1 : (1000 : Int) < (s.size : Int) := by omega
        have hk0 : Kept (fun _ => False) w ((w.alloc (.cells #[.int .i64 n, .string v, .string r] 30)).alloc (.cells #[.int .i64 m, .string u, .string x] 30)) := ((Kept.refl _ _).alloc _).alloc _
        have HK := Lib.hid hk0
        have bA := (Box.made w 30 #[.int .i64 n, .string v, .string r]).after_alloc (.cells #[.int .i64 m, .string u, .string x] 30)
        have bB := Box.made (w.alloc (.cells #[.int .i64 n, .string v, .string r] 30)) 30 #[.int .i64 m, .string u, .string x]
        rw [World.size_alloc] at bB
        have HA := Lib.hid bA
        have HB := Lib.hid bB
        clear hk0 bA bB
        go_enter Tryd.func4, Tryd.ntmps4
        go_wp2_with (first
          | (go_at_call 15; (first | (with_reducible refine (L1 _).mono ?_) | (with_reducible refine (L2 _).mono ?_)); rintro e w5 ⟨rfl, hk5⟩; have HA := Lib.hid (hk5.box HA.out (fun h => h)); have HB := Lib.hid (hk5.box HB.out (fun h => h)); have a0 := HA.out.cell 0; have a1 := HA.out.cell 1; have a2 := HA.out.cell 2; have b0 := HB.out.cell 0; have b1 := HB.out.cell 1; have b2 := HB.out.cell 2; have HK := Lib.hid (Kept.trans HK.out hk5 (fun _ _ h => h)); clear hk5)
          | fail)
        go_ret
        exact ⟨rfl, HK.out⟩
    · have L2 := fun w => @large_yes m u x hB w
      have hk0 : Kept (fun _ => False) w ((w.alloc (.cells #[.int .i64 n, .string v, .string r] 30)).alloc (.cells #[.int .i64 m, .string u, .string x] 30)) := ((Kept.refl _ _).alloc _).alloc _
      have HK := Lib.hid hk0
      have bA := (Box.made w 30 #[.int .i64 n, .string v, .string r]).after_alloc (.cells #[.int .i64 m, .string u, .string x] 30)
      have bB := Box.made (w.alloc (.cells #[.int .i64 n, .string v, .string r] 30)) 30 #[.int .i64 m, .string u, .string x]
      rw [World.size_alloc] at bB
      have HA := Lib.hid bA
      have HB := Lib.hid bB
      clear hk0 bA bB
      go_enter Tryd.func4, Tryd.ntmps4
      go_wp2_with (first
        | (go_at_call 15; (first | (with_reducible refine (L1 _).mono ?_) | (with_reducible refine (L2 _).mono ?_)); rintro e w5 ⟨rfl, hk5⟩; have HA := Lib.hid (hk5.box HA.out (fun h => h)); have HB := Lib.hid (hk5.box HB.out (fun h => h)); have a0 := HA.out.cell 0; have a1 := HA.out.cell 1; have a2 := HA.out.cell 2; have b0 := HB.out.cell 0; have b1 := HB.out.cell 1; have b2 := HB.out.cell 2; have HK := Lib.hid (Kept.trans HK.out hk5 (fun _ _ h => h)); clear hk5)
        | fail)
      go_ret
      exact ⟨rfl, HK.out⟩
  · have L1 := fun w => @large_yes n v r hA w
    have L2 := L1
    have hk0 : Kept (fun _ => False) w ((w.alloc (.cells #[.int .i64 n, .string v, .string r] 30)).alloc (.cells #[.int .i64 m, .string u, .string x] 30)) := ((Kept.refl _ _).alloc _).alloc _
    have HK := Lib.hid hk0
    have bA := (Box.made w 30 #[.int .i64 n, .string v, .string r]).after_alloc (.cells #[.int .i64 m, .string u, .string x] 30)
    have bB := Box.made (w.alloc (.cells #[.int .i64 n, .string v, .string r] 30)) 30 #[.int .i64 m, .string u, .string x]
    rw [World.size_alloc] at bB
    have HA := Lib.hid bA
    have HB := Lib.hid bB
    clear hk0 bA bB
    go_enter Tryd.func4, Tryd.ntmps4
    go_wp2_with (first
      | (go_at_call 15; (first | (with_reducible refine (L1 _).mono ?_) | (with_reducible refine (L2 _).mono ?_)); rintro e w5 ⟨rfl, hk5⟩; have HA := Lib.hid (hk5.box HA.out (fun h => h)); have HB := Lib.hid (hk5.box HB.out (fun h => h)); have a0 := HA.out.cell 0; have a1 := HA.out.cell 1; have a2 := HA.out.cell 2; have b0 := HB.out.cell 0; have b1 := HB.out.cell 1; have b2 := HB.out.cell 2; have HK := Lib.hid (Kept.trans HK.out hk5 (fun _ _ h => h)); clear hk5)
      | fail)
    go_ret
    exact ⟨rfl, HK.out⟩
end Go.Proofs.YtgnmfpcjpfbjoaaDoor
