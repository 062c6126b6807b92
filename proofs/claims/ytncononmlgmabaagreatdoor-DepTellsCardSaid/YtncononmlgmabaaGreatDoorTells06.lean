/-
  The walk over the law DepTells. Conditions: as each theorem states.
-/
import Derived.Test.YtncononmlgmabaaGreatDoorFace06
import Derived.Test.YtncononmlgmabaaGreatDoorRefShow6
import Derived.Test.YtncononmlgmabaaGreatDoorClass
namespace Go.Proofs.YtncononmlgmabaaGreatDoor
open Go.RowKit Ver Evr Span Dep

set_option maxRecDepth 100000 in
set_option maxHeartbeats 2000000 in
theorem deptells_big (nm : ByteArray) (o : Nat) (n : Int) (v r : ByteArray) (s : ByteArray) (w : World) (hAw : (∀ W, Kept (fun _ => False) w W → Calls Tryz.prog 5 #[] W fun e w' => e = .returned (.bool true) ∧ Kept (fun _ => False) W w')) (hLg : (∀ W, Kept (fun _ => False) w W → Calls Tryz.prog 4 #[.agg #[.string nm, .int .u8 (o : Int), .int .i64 n, .string v, .string r]] W fun e w' => e = .returned (.bool true) ∧ Kept (fun _ => False) W w')) : Calls Tryz.prog 3 #[.agg #[.string nm, .int .u8 (o : Int), .int .i64 n, .string v, .string r], .string s] w fun e w' => e = .returned (.bool true) ∧ Kept (fun _ => False) w w' := by
  have HA := Lib.hid (Box.made w 25 #[.string nm, .int .u8 (o : Int), .int .i64 n, .string v, .string r])
  have HK := Lib.hid ((Kept.refl (fun _ => False) w).alloc (.cells #[.string nm, .int .u8 (o : Int), .int .i64 n, .string v, .string r] 25))
  go_enter Tryz.func3, Tryz.ntmps3
  go_wp2_with (first
    | (go_at_call 4; (with_reducible refine (hLg _ HK.out).mono ?_); rintro e w5 ⟨rfl, hk5⟩; have HA := Lib.hid (hk5.box HA.out (fun h => h)); have HK := Lib.hid (Kept.trans HK.out hk5 (fun _ _ h => h)); have ax0 := HA.out.cell 0; have ax1 := HA.out.cell 1; have ax2 := HA.out.cell 2; have ax3 := HA.out.cell 3; have ax4 := HA.out.cell 4; clear hk5)
    | (go_at_call 5; (with_reducible refine (hAw _ HK.out).mono ?_); rintro e w6 ⟨rfl, hk6⟩; have HA := Lib.hid (hk6.box HA.out (fun h => h)); have HK := Lib.hid (Kept.trans HK.out hk6 (fun _ _ h => h)); have ax0 := HA.out.cell 0; have ax1 := HA.out.cell 1; have ax2 := HA.out.cell 2; have ax3 := HA.out.cell 3; have ax4 := HA.out.cell 4; clear hk6)
    | fail)
  go_ret
  exact ⟨rfl, HK.out⟩
set_option maxRecDepth 100000 in
set_option maxHeartbeats 2000000 in
theorem deptells_long (nm : ByteArray) (o : Nat) (n : Int) (v r : ByteArray) (s : ByteArray) (w : World) (hAw : (∀ W, Kept (fun _ => False) w W → Calls Tryz.prog 5 #[] W fun e w' => e = .returned (.bool true) ∧ Kept (fun _ => False) W w')) (hLg : (∀ W, Kept (fun _ => False) w W → Calls Tryz.prog 4 #[.agg #[.string nm, .int .u8 (o : Int), .int .i64 n, .string v, .string r]] W fun e w' => e = .returned (.bool false) ∧ Kept (fun _ => False) W w')) (n1 : (1000 : Int) < (s.size : Int)) : Calls Tryz.prog 3 #[.agg #[.string nm, .int .u8 (o : Int), .int .i64 n, .string v, .string r], .string s] w fun e w' => e = .returned (.bool true) ∧ Kept (fun _ => False) w w' := by
  have HA := Lib.hid (Box.made w 25 #[.string nm, .int .u8 (o : Int), .int .i64 n, .string v, .string r])
  have HK := Lib.hid ((Kept.refl (fun _ => False) w).alloc (.cells #[.string nm, .int .u8 (o : Int), .int .i64 n, .string v, .string r] 25))
  go_enter Tryz.func3, Tryz.ntmps3
  go_wp2_with (first
    | (go_at_call 4; (with_reducible refine (hLg _ HK.out).mono ?_); rintro e w5 ⟨rfl, hk5⟩; have HA := Lib.hid (hk5.box HA.out (fun h => h)); have HK := Lib.hid (Kept.trans HK.out hk5 (fun _ _ h => h)); have ax0 := HA.out.cell 0; have ax1 := HA.out.cell 1; have ax2 := HA.out.cell 2; have ax3 := HA.out.cell 3; have ax4 := HA.out.cell 4; clear hk5)
    | (go_at_call 5; (with_reducible refine (hAw _ HK.out).mono ?_); rintro e w6 ⟨rfl, hk6⟩; have HA := Lib.hid (hk6.box HA.out (fun h => h)); have HK := Lib.hid (Kept.trans HK.out hk6 (fun _ _ h => h)); have ax0 := HA.out.cell 0; have ax1 := HA.out.cell 1; have ax2 := HA.out.cell 2; have ax3 := HA.out.cell 3; have ax4 := HA.out.cell 4; clear hk6)
    | fail)
  go_ret
  exact ⟨rfl, HK.out⟩
set_option maxRecDepth 100000 in
set_option maxHeartbeats 2000000 in
theorem deptells_main (nm : ByteArray) (o : Nat) (n : Int) (v r : ByteArray) (s t : ByteArray) (et er : Int) (xs : List ByteArray) (b1 b2 b3 : Bool) (w : World) (hAw : (∀ W, Kept (fun _ => False) w W → Calls Tryz.prog 5 #[] W fun e w' => e = .returned (.bool true) ∧ Kept (fun _ => False) W w')) (hLg : (∀ W, Kept (fun _ => False) w W → Calls Tryz.prog 4 #[.agg #[.string nm, .int .u8 (o : Int), .int .i64 n, .string v, .string r]] W fun e w' => e = .returned (.bool false) ∧ Kept (fun _ => False) W w')) (n1 : ¬ ((1000 : Int) < (s.size : Int))) (hS1 : (∀ W, Kept (fun _ => False) w W → Calls Tryz.prog 6 #[.agg #[.string nm, .int .u8 (o : Int), .int .i64 n, .string v, .string r]] W fun e w' => e = .returned (.tuple #[.string t, .int .i64 et]) ∧ Kept (fun _ => False) W w')) (hS2 : (∀ W, Kept (fun _ => False) w W → Calls Tryz.prog 7 #[.agg #[.string nm, .int .u8 (o : Int), .int .i64 n, .string v, .string r]] W fun e w' => e = .returned (.tuple #[.string t, .int .i64 et]) ∧ Kept (fun _ => False) W w')) (hW1 : (∀ W, Kept (fun _ => False) w W → Calls Tryz.prog 8 #[.agg #[.string nm, .int .u8 (o : Int), .int .i64 n, .string v, .string r]] W fun e w' => (∃ va, e = .returned (.tuple #[va, .int .i64 er]) ∧ StrS w' va xs) ∧ Kept (fun _ => False) W w')) (hW2 : (∀ W, Kept (fun _ => False) w W → Calls Tryz.prog 9 #[.agg #[.string nm, .int .u8 (o : Int), .int .i64 n, .string v, .string r]] W fun e w' => (∃ va, e = .returned (.tuple #[va, .int .i64 er]) ∧ StrS w' va xs) ∧ Kept (fun _ => False) W w')) (hT : ∀ W va vb, Kept (fun _ => False) w W → StrS W va xs → StrS W vb xs → Calls Tryz.prog 10 #[va, vb] W fun e w' => e = .returned (.bool true) ∧ Kept (fun _ => False) W w') (hN1 : (∀ W, Kept (fun _ => False) w W → Calls Tryz.prog 11 #[.string s] W fun e w' => e = .returned (.bool b1) ∧ Kept (fun _ => False) W w')) (hN2 : (∀ W, Kept (fun _ => False) w W → Calls Tryz.prog 12 #[.string s] W fun e w' => e = .returned (.bool b1) ∧ Kept (fun _ => False) W w')) (hF1 : (∀ W, Kept (fun _ => False) w W → Calls Tryz.prog 13 #[.string s] W fun e w' => e = .returned (.bool b2) ∧ Kept (fun _ => False) W w')) (hF2 : (∀ W, Kept (fun _ => False) w W → Calls Tryz.prog 14 #[.string s] W fun e w' => e = .returned (.bool b2) ∧ Kept (fun _ => False) W w')) (hM1 : (∀ W, Kept (fun _ => False) w W → Calls Tryz.prog 15 #[.agg #[.string nm, .int .u8 (o : Int), .int .i64 n, .string v, .string r]] W fun e w' => e = .returned (.bool b3) ∧ Kept (fun _ => False) W w')) (hM2 : (∀ W, Kept (fun _ => False) w W → Calls Tryz.prog 16 #[.agg #[.string nm, .int .u8 (o : Int), .int .i64 n, .string v, .string r]] W fun e w' => e = .returned (.bool b3) ∧ Kept (fun _ => False) W w')) (hO1 : (∀ W, Kept (fun _ => False) w W → Calls Tryz.prog 17 #[.string s, .agg #[.int .i64 n, .string v, .string r]] W fun e w' => e = .returned (.agg #[.string s, .int .u8 2, .int .i64 n, .string v, .string r]) ∧ Kept (fun _ => False) W w')) (hO2 : (∀ W, Kept (fun _ => False) w W → Calls Tryz.prog 18 #[.string s, .agg #[.int .i64 n, .string v, .string r]] W fun e w' => e = .returned (.agg #[.string s, .int .u8 2, .int .i64 n, .string v, .string r]) ∧ Kept (fun _ => False) W w')) : Calls Tryz.prog 3 #[.agg #[.string nm, .int .u8 (o : Int), .int .i64 n, .string v, .string r], .string s] w fun e w' => e = .returned (.bool true) ∧ Kept (fun _ => False) w w' := by
  have HA := Lib.hid (Box.made w 25 #[.string nm, .int .u8 (o : Int), .int .i64 n, .string v, .string r])
  have HK := Lib.hid ((Kept.refl (fun _ => False) w).alloc (.cells #[.string nm, .int .u8 (o : Int), .int .i64 n, .string v, .string r] 25))
  go_enter Tryz.func3, Tryz.ntmps3
  go_wp2_with (first
    | (go_at_call 4; (with_reducible refine (hLg _ HK.out).mono ?_); rintro e w5 ⟨rfl, hk5⟩; have HA := Lib.hid (hk5.box HA.out (fun h => h)); have HK := Lib.hid (Kept.trans HK.out hk5 (fun _ _ h => h)); have ax0 := HA.out.cell 0; have ax1 := HA.out.cell 1; have ax2 := HA.out.cell 2; have ax3 := HA.out.cell 3; have ax4 := HA.out.cell 4; clear hk5)
    | (go_at_call 6; (with_reducible refine (hS1 _ HK.out).mono ?_); rintro e w6 ⟨rfl, hk6⟩; have HA := Lib.hid (hk6.box HA.out (fun h => h)); have HK := Lib.hid (Kept.trans HK.out hk6 (fun _ _ h => h)); have ax0 := HA.out.cell 0; have ax1 := HA.out.cell 1; have ax2 := HA.out.cell 2; have ax3 := HA.out.cell 3; have ax4 := HA.out.cell 4; clear hk6)
    | (go_at_call 7; (with_reducible refine (hS2 _ HK.out).mono ?_); rintro e w7 ⟨rfl, hk7⟩; have HA := Lib.hid (hk7.box HA.out (fun h => h)); have HK := Lib.hid (Kept.trans HK.out hk7 (fun _ _ h => h)); have ax0 := HA.out.cell 0; have ax1 := HA.out.cell 1; have ax2 := HA.out.cell 2; have ax3 := HA.out.cell 3; have ax4 := HA.out.cell 4; clear hk7)
    | (go_at_call 8; (with_reducible refine (hW1 _ HK.out).mono ?_); rintro e w8 ⟨⟨va, rfl, hs8⟩, hk8⟩; have HV := Lib.hid hs8; clear hs8; have HA := Lib.hid (hk8.box HA.out (fun h => h)); have HK := Lib.hid (Kept.trans HK.out hk8 (fun _ _ h => h)); have ax0 := HA.out.cell 0; have ax1 := HA.out.cell 1; have ax2 := HA.out.cell 2; have ax3 := HA.out.cell 3; have ax4 := HA.out.cell 4; clear hk8)
    | (go_at_call 9; (with_reducible refine (hW2 _ HK.out).mono ?_); rintro e w9 ⟨⟨vb, rfl, hs9⟩, hk9⟩; have HV := Lib.hid (HV.out.kept hk9 (fun _ _ _ _ h => h)); have HU := Lib.hid hs9; clear hs9; have HA := Lib.hid (hk9.box HA.out (fun h => h)); have HK := Lib.hid (Kept.trans HK.out hk9 (fun _ _ h => h)); have ax0 := HA.out.cell 0; have ax1 := HA.out.cell 1; have ax2 := HA.out.cell 2; have ax3 := HA.out.cell 3; have ax4 := HA.out.cell 4; clear hk9)
    | fail)
  obtain ⟨T, F, t0, ht0, hFk, hFs⟩ := class_of w9
  have fA := fun t => (hFk t).box HA.out (fun h => h)
  have fK := fun t => HK.out.trans (hFk t) (fun _ _ h => h)
  have qa0 : ∀ t, (F t).cell? ⟨w.heap.size, 0, none⟩ = some (.string nm) := fun t => (fA t).cell 0
  have qa1 : ∀ t, (F t).cell? ⟨w.heap.size, 1, none⟩ = some (.int .u8 (o : Int)) := fun t => (fA t).cell 1
  have qa2 : ∀ t, (F t).cell? ⟨w.heap.size, 2, none⟩ = some (.int .i64 n) := fun t => (fA t).cell 2
  have qa3 : ∀ t, (F t).cell? ⟨w.heap.size, 3, none⟩ = some (.string v) := fun t => (fA t).cell 3
  have qa4 : ∀ t, (F t).cell? ⟨w.heap.size, 4, none⟩ = some (.string r) := fun t => (fA t).cell 4
  have T1 := fun t => hT (F t) va vb (fK t) (HV.out.kept (hFk t) (fun _ _ _ _ h => h)) (HU.out.kept (hFk t) (fun _ _ _ _ h => h))
  have N1 := fun t => hN1 (F t) (fK t)
  have N2 := fun t => hN2 (F t) (fK t)
  have F1 := fun t => hF1 (F t) (fK t)
  have F2 := fun t => hF2 (F t) (fK t)
  have M1 := fun t => hM1 (F t) (fK t)
  have M2 := fun t => hM2 (F t) (fK t)
  have O1 := fun t => hO1 (F t) (fK t)
  have O2 := fun t => hO2 (F t) (fK t)
  have A1 := fun t => hAw (F t) (fK t)
  have HFK := Lib.hid fK
  have HFS := Lib.hid hFs
  clear hFk hFs fA fK hT hN1 hN2 hF1 hF2 hM1 hM2 hO1 hO2 hAw hS1 hS2 hW1 hW2 hLg
  have hne : Nonempty T := ⟨t0⟩
  refine wp_region_class F t0 ht0 (by kernel_rfl) (by kernel_rfl) ?_
  repeat (go_big_quiet_step (first
    | (go_at_call 10; with_reducible exact class_call HFS.out (T1 _))
    | (go_at_call 11; with_reducible exact class_call HFS.out (N1 _))
    | (go_at_call 12; with_reducible exact class_call HFS.out (N2 _))
    | (go_at_call 13; with_reducible exact class_call HFS.out (F1 _))
    | (go_at_call 14; with_reducible exact class_call HFS.out (F2 _))
    | (go_at_call 15; with_reducible exact class_call HFS.out (M1 _))
    | (go_at_call 16; with_reducible exact class_call HFS.out (M2 _))
    | (go_at_call 17; with_reducible exact class_call HFS.out (O1 _))
    | (go_at_call 18; with_reducible exact class_call HFS.out (O2 _))
    | (go_at_call 5; with_reducible exact class_call HFS.out (A1 _))
    ))
  refine wpQuiet_nil ?_
  rintro _ ⟨tz, rfl⟩
  have hkz := HFK.out tz
  go_wp2_with fail
  go_ret
  exact ⟨rfl, hkz⟩
theorem showRD_form (nm : ByteArray) (o : Nat) (n : Int) (v r : ByteArray) : ∃ (t : ByteArray) (er : Int), showRD nm o n v r = .tuple #[.string t, .int .i64 er] := by
  unfold showRD
  split
  · exact ⟨_, _, rfl⟩
  · exact ⟨_, _, rfl⟩
theorem deptells_walk {w0 : World} (hA : AllW w0) (nm : ByteArray) (o : Nat) (n : Int) (v r : ByteArray) (ho : o < 256) (s : ByteArray) (w : World) (hw : Kept (fun _ => False) w0 w) : Calls Tryz.prog 3 #[.agg #[.string nm, .int .u8 (o : Int), .int .i64 n, .string v, .string r], .string s] w fun e w' => e = .returned (.bool true) ∧ Kept (fun _ => False) w w' := by
  have tr := fun W (hk : Kept (fun _ => False) w W) => hw.trans hk (fun _ _ h => h)
  have hAw := fun W hk => awake6_walk hA W (tr W hk)
  by_cases hsm : small nm v r
  · have hLg := fun W (_ : Kept (fun _ => False) w W) => @long6_no nm v r o n hsm W
    obtain ⟨z1, z2, z3⟩ := hsm
    by_cases h1 : 1000 < s.size
    · exact deptells_long nm o n v r s w hAw hLg (by omega)
    · obtain ⟨t, et, ht⟩ := showRD_form nm o n v r
      refine deptells_main nm o n v r s t et (errA nm o n v r) (wordsA nm o n v r) (nameD s.data.toList) (fileD s.data.toList) (mayD (dD nm o n v r)) w hAw hLg (by omega) (fun W hk => ?_) (fun W hk => ?_) (fun W hk => ?_) (fun W hk => ?_) (fun W va vb hk ha hb => ?_) (fun W hk => ?_) (fun W hk => ?_) (fun W hk => ?_) (fun W hk => ?_) (fun W hk => ?_) (fun W hk => ?_) (fun W hk => ?_) (fun W hk => ?_)
      · rw [← ht]; exact showp_walk hA.lib hA.no nm o ho n v r (by omega) (by omega) (by omega) W (tr W hk)
      · rw [← ht]; exact (rboth nm o ho n v r (by omega) (by omega) W).2
      · exact (words_walk hA.lib hA.no nm o ho n v r (by omega) (by omega) (by omega) W (tr W hk)).mono fun e w' ⟨h, h2⟩ => by
          unfold errA wordsA
          rcases h with ⟨hm, h⟩ | ⟨hm, va, h, hown⟩
          · rw [hm]; exact ⟨⟨_, h, nil_strs w'⟩, h2⟩
          · rw [hm, if_pos rfl, if_pos rfl]; exact ⟨⟨va, h, own_strs hown⟩, h2⟩
      · exact (rboth nm o ho n v r (by omega) (by omega) W).1
      · have hl : (wordsA nm o n v r).length ≤ 1000000 := by
          unfold wordsA
          split
          · exact Nat.le_trans (wordsB_len nm o n v r).2 (by decide)
          · simp
        have := texts6_walk va vb _ _ W hl ha hb
        rw [decide_eq_true rfl] at this
        exact this
      · exact name_walk s W (hA.no.kept (tr W hk))
      · exact same_kept (name6_walk s W)
      · exact file_walk s W (hA.no.kept (tr W hk))
      · exact same_kept (file6_walk s W)
      · exact may6p_walk nm o ho n v r W (hA.no.kept (tr W hk))
      · exact may6r_walk nm o ho n v r (by omega) (by omega) W
      · exact own6_walk s n v r (by omega) (by omega) (by omega) W
      · exact rown_walk s n v r W
  · exact deptells_big nm o n v r s w hAw (fun W _ => @long6_yes nm v r o n hsm W)
end Go.Proofs.YtncononmlgmabaaGreatDoor
