/-
  The walk over the program's own split: what stands in a text for an epoch, a version, a release. The walk over the program's own Parse: the EVR of a text. The walks over the program's own text of layer 6: the dependency of words. Conditions: the library's variables and the array of words that are no names lie as their texts lay them. Conditions: as each theorem states.
-/
import Derived.Test.YtoebokgpdkklmaaGreatDoorK19
import Derived.Test.YtoebokgpdkklmaaGreatDoorK13
import Derived.Deep.RegionWith
import Derived.Test.YtoebokgpdkklmaaGreatDoorK18
import Derived.BigRegion
namespace Go.Proofs.YtoebokgpdkklmaaGreatDoor
open Go.RowKit Ver Evr

theorem scut_at (s : ByteArray) (c : UInt8) (x y : ByteArray) (z : Bool) (w : World) (hs : s.size ≤ 1000000) (h : cut c s.data.toList = (x.data.toList, y.data.toList, z)) :
    Calls Tryz.prog 106 #[.string s, .string ⟨#[c]⟩] w fun e w' => e = .returned (.tuple #[.string x, .string y, .bool z]) ∧ Kept (fun _ => False) w w' := by
  refine (scut_walk s c w hs).mono ?_
  rintro e w' ⟨⟨x', y', z', rfl, hc, _, _⟩, hk⟩
  rw [h] at hc
  simp only [Prod.mk.injEq] at hc
  obtain ⟨h1, h2, h3⟩ := hc
  rw [bytes_ext h1, bytes_ext h2, h3]
  exact ⟨rfl, hk⟩
theorem cut_made (c : UInt8) (s : ByteArray) : ∃ (x y : ByteArray) (z : Bool), cut c s.data.toList = (x.data.toList, y.data.toList, z) ∧ x.size ≤ s.size ∧ y.size ≤ s.size := by
  have hsl : s.data.toList.length = s.size := rfl
  refine ⟨⟨(cut c s.data.toList).1.toArray⟩, ⟨(cut c s.data.toList).2.1.toArray⟩, (cut c s.data.toList).2.2, rfl, ?_, ?_⟩
  · show (cut c s.data.toList).1.toArray.size ≤ s.size
    rcases byte_index c s.data.toList with ⟨_, h⟩ | ⟨i, _, hi, h⟩
    · rw [h]; exact Nat.le_refl _
    · rw [h, ← hsl]; simp; omega
  · show (cut c s.data.toList).2.1.toArray.size ≤ s.size
    rcases byte_index c s.data.toList with ⟨_, h⟩ | ⟨i, _, hi, h⟩
    · rw [h]; simp
    · rw [h, ← hsl]; simp
set_option maxRecDepth 100000 in
set_option maxHeartbeats 2000000 in
theorem split_no (s x y : ByteArray) (z : Bool) (hs : s.size ≤ 1000000) (x0 y0 : ByteArray) (h0 : cut 58 s.data.toList = (x0.data.toList, y0.data.toList, false)) (h : cut 45 s.data.toList = (x.data.toList, y.data.toList, z)) (w : World) :
    Calls Tryz.prog 99 #[.string s] w fun e w' => e = .returned (.agg #[.int .i64 0, .string x, .string y]) ∧ Kept (fun _ => False) w w' := by
  have C1 := fun W => scut_at s 58 x0 y0 false W hs h0
  have C2 := fun W => scut_at s 45 x y z W hs h
  clear h0 h
  have bR := (Box.made w 23 zeroE).after_alloc (.cells zeroE 23)
  have bE := Box.made (w.alloc (.cells zeroE 23)) 23 zeroE
  rw [World.size_alloc] at bE
  have HR := Lib.hid bR
  have HE := Lib.hid bE
  have HK := Lib.hid (((Kept.refl (fun _ => False) w).alloc (.cells zeroE 23)).alloc (.cells zeroE 23))
  clear bR bE
  go_enter Tryz.func99, Tryz.ntmps99
  go_wp2_with (go_at_call 106; (first | (with_reducible refine (C1 _).mono ?_) | (with_reducible refine (C2 _).mono ?_)); rintro e w5 ⟨rfl, hk5⟩; have HR := Lib.hid (hk5.box HR.out (fun h => h)); have HE := Lib.hid (hk5.box HE.out (fun h => h)); have HK := Lib.hid (HK.out.trans hk5 (fun _ _ h => h)); have r0 := HR.out.cell 0; have r1 := HR.out.cell 1; have r2 := HR.out.cell 2; have e0 := HE.out.cell 0; have e1 := HE.out.cell 1; have e2 := HE.out.cell 2; have t0 := HR.out.free 0; have t1 := HR.out.free 1; have t2 := HR.out.free 2; have u0 := HE.out.free 0; have u1 := HE.out.free 1; have u2 := HE.out.free 2; clear hk5)
  have hne : w.heap.size ≠ w.heap.size + 1 := by omega
  have hRs := box_off (box_off HR.out ⟨w.heap.size + 1, 1, none⟩ hne (.string x)) ⟨w.heap.size + 1, 2, none⟩ hne (.string y)
  exact bodyPost_ret (evr_result rfl _ _ w.heap.size _ rfl (((hRs.stored 0 _).stored 1 _).stored 2 _) rfl) rfl ⟨rfl, (((((HK.out.setCell (p := ⟨w.heap.size + 1, 1, none⟩) (.inr (Nat.le_succ _)) _).setCell (p := ⟨w.heap.size + 1, 2, none⟩) (.inr (Nat.le_succ _)) _).setCell (p := ⟨w.heap.size, 0, none⟩) (.inr (Nat.le_refl _)) _).setCell (p := ⟨w.heap.size, 1, none⟩) (.inr (Nat.le_refl _)) _).setCell (p := ⟨w.heap.size, 2, none⟩) (.inr (Nat.le_refl _)) _)⟩
set_option maxRecDepth 100000 in
set_option maxHeartbeats 2000000 in
theorem split_yes {w0 : World} (hL : LibW w0) (s x y : ByteArray) (z : Bool) (hs : s.size ≤ 1000000) (x0 y0 : ByteArray) (hx0 : x0.size ≤ 1000000) (hy0 : y0.size ≤ 1000000) (h0 : cut 58 s.data.toList = (x0.data.toList, y0.data.toList, true)) (h : cut 45 y0.data.toList = (x.data.toList, y.data.toList, z)) (w : World) (hw : Kept (fun _ => False) w0 w) :
    Calls Tryz.prog 99 #[.string s] w fun e w' => e = .returned (.agg #[.int .i64 (numV x0.data.toList), .string x, .string y]) ∧ Kept (fun _ => False) w w' := by
  have C1 := fun W => scut_at s 58 x0 y0 true W hs h0
  have C2 := fun W => scut_at y0 45 x y z W hy0 h
  have A1 := fun W hW => atoi_walk x0 W (hL.kept hW) hx0
  generalize numV x0.data.toList = N at *
  have HW := Lib.hid hw
  clear h0 h hw hL
  have bR := (Box.made w 23 zeroE).after_alloc (.cells zeroE 23)
  have bE := Box.made (w.alloc (.cells zeroE 23)) 23 zeroE
  rw [World.size_alloc] at bE
  have HR := Lib.hid bR
  have HE := Lib.hid bE
  have HK := Lib.hid (((Kept.refl (fun _ => False) w).alloc (.cells zeroE 23)).alloc (.cells zeroE 23))
  clear bR bE
  have hne : w.heap.size ≠ w.heap.size + 1 := by omega
  have HNE := Lib.hid hne
  clear hne
  go_enter Tryz.func99, Tryz.ntmps99
  go_wp2_with (go_at_call 106; refine (C1 _).mono ?_; rintro e w5 ⟨rfl, hk5⟩; have HR := Lib.hid (hk5.box HR.out (fun h => h)); have HE := Lib.hid (hk5.box HE.out (fun h => h)); have HK := Lib.hid (HK.out.trans hk5 (fun _ _ h => h)); have r0 := HR.out.cell 0; have r1 := HR.out.cell 1; have r2 := HR.out.cell 2; have e0 := HE.out.cell 0; have e1 := HE.out.cell 1; have e2 := HE.out.cell 2; have t0 := HR.out.free 0; have t1 := HR.out.free 1; have t2 := HR.out.free 2; have u0 := HE.out.free 0; have u1 := HE.out.free 1; have u2 := HE.out.free 2; clear hk5; refine Hid.out ?_)
  refine Lib.hid ?_
  go_wp2_with (go_at_call 107; refine (A1 _ (HW.out.trans HK.out (fun _ _ h => h))).mono ?_; rintro e w6 ⟨⟨ev, rfl⟩, hk6⟩; have HR := Lib.hid (hk6.box HR.out (fun h => h)); have HE := Lib.hid (hk6.box HE.out (fun h => h)); have HK := Lib.hid (HK.out.trans hk6 (fun _ _ h => h)); have r0 := HR.out.cell 0; have r1 := HR.out.cell 1; have r2 := HR.out.cell 2; have e0 := HE.out.cell 0; have e1 := HE.out.cell 1; have e2 := HE.out.cell 2; have t0 := HR.out.free 0; have t1 := HR.out.free 1; have t2 := HR.out.free 2; have u0 := HE.out.free 0; have u1 := HE.out.free 1; have u2 := HE.out.free 2; clear hk6; refine Hid.out ?_)
  refine Lib.hid ?_
  go_wp2_with (go_at_call 106; refine (C2 _).mono ?_; rintro e w7 ⟨rfl, hk7⟩; have HR := Lib.hid (hk7.box (box_off HR.out ⟨w.heap.size + 1, 0, none⟩ HNE.out (.int .i64 N)) (fun h => h)); have HE := Lib.hid (hk7.box (HE.out.stored 0 (.int .i64 N)) (fun h => h)); have HK := Lib.hid ((HK.out.setCell (p := ⟨w.heap.size + 1, 0, none⟩) (.inr (Nat.le_succ _)) (.int .i64 N)).trans hk7 (fun _ _ h => h)); have r0 := HR.out.cell 0; have r1 := HR.out.cell 1; have r2 := HR.out.cell 2; have e0 := HE.out.cell 0; have e1 := HE.out.cell 1; have e2 := HE.out.cell 2; have t0 := HR.out.free 0; have t1 := HR.out.free 1; have t2 := HR.out.free 2; have u0 := HE.out.free 0; have u1 := HE.out.free 1; have u2 := HE.out.free 2; clear hk7)
  have hne := HNE.out
  have hRs := box_off (box_off HR.out ⟨w.heap.size + 1, 1, none⟩ hne (.string x)) ⟨w.heap.size + 1, 2, none⟩ hne (.string y)
  exact bodyPost_ret (evr_result rfl _ _ w.heap.size _ rfl (((hRs.stored 0 _).stored 1 _).stored 2 _) rfl) rfl ⟨rfl, (((((HK.out.setCell (p := ⟨w.heap.size + 1, 1, none⟩) (.inr (Nat.le_succ _)) _).setCell (p := ⟨w.heap.size + 1, 2, none⟩) (.inr (Nat.le_succ _)) _).setCell (p := ⟨w.heap.size, 0, none⟩) (.inr (Nat.le_refl _)) _).setCell (p := ⟨w.heap.size, 1, none⟩) (.inr (Nat.le_refl _)) _).setCell (p := ⟨w.heap.size, 2, none⟩) (.inr (Nat.le_refl _)) _)⟩
theorem split_walk {w0 : World} (hL : LibW w0) (s : ByteArray) (hs : s.size ≤ 1000000) (w : World) (hw : Kept (fun _ => False) w0 w) :
    ∃ (n : Int) (v r : ByteArray), evrE n v r = splitE s.data.toList ∧ v.size ≤ s.size ∧ r.size ≤ s.size ∧
      Calls Tryz.prog 99 #[.string s] w fun e w' => e = .returned (.agg #[.int .i64 n, .string v, .string r]) ∧ Kept (fun _ => False) w w' := by
  obtain ⟨x0, y0, z0, h0, hx0, hy0⟩ := cut_made 58 s
  cases z0 with
  | false =>
    obtain ⟨x, y, z, h, hx, hy⟩ := cut_made 45 s
    refine ⟨0, x, y, ?_, hx, hy, split_no s x y z hs x0 y0 h0 h w⟩
    unfold splitE evrE
    rw [h0, h]
    rfl
  | true =>
    obtain ⟨x, y, z, h, hx, hy⟩ := cut_made 45 y0
    refine ⟨numV x0.data.toList, x, y, ?_, by omega, by omega, split_yes hL s x y z hs x0 y0 (by omega) (by omega) h0 h w hw⟩
    unfold splitE evrE
    rw [h0]
    simp only [h]
    rfl
end Go.Proofs.YtoebokgpdkklmaaGreatDoor

namespace Go.Proofs.YtoebokgpdkklmaaGreatDoor
open Go.RowKit Ver Evr

theorem parse_some {s : List UInt8} (h1 : mayE (splitE s) true = true) (h2 : showE (splitE s) = s) : parseE s = some (splitE s) := by rw [parse_split, if_pos ⟨h1, h2⟩]
theorem parse_none {s : List UInt8} (h : ¬ (mayE (splitE s) true = true ∧ showE (splitE s) = s)) : parseE s = none := by rw [parse_split, if_neg h]

theorem parseP_result (W : World) (g : Nat) (n er : Int) (v r : ByteArray) (tmps : Array Value) (h1 : tmps[2]?.getD undef = .pointer (some ⟨g, 0, none⟩)) (h2 : tmps[3]?.getD undef = .int .i64 er) (hB : Box W g 23 #[.int .i64 n, .string v, .string r]) :
    (results Tryz.f90 tmps).run Tryz.prog W = .ok (.tuple #[.agg #[.int .i64 n, .string v, .string r], .int .i64 er]) W := by
  have c0 : W.cell? ⟨g, 0, none⟩ = some (.int .i64 n) := hB.cell 0
  have c1 : W.cell? ⟨g, 1, none⟩ = some (.string v) := hB.cell 1
  have c2 : W.cell? ⟨g, 2, none⟩ = some (.string r) := hB.cell 2
  simp [results, Tryz.results90, go_sem, h1, h2, c0, c1, c2]

set_option maxRecDepth 100000 in
set_option maxHeartbeats 2000000 in
theorem parseP_yes (s : ByteArray) (n : Int) (v r : ByteArray) (hv : v.size ≤ 1000000) (hr : r.size ≤ 1000000)
    (w : World) (hSp : ∀ W, Kept (fun _ => False) w W → Calls Tryz.prog 99 #[.string s] W fun e w' => e = .returned (.agg #[.int .i64 n, .string v, .string r]) ∧ Kept (fun _ => False) W w')
    (hSh : ∀ W, Kept (fun _ => False) w W → Calls Tryz.prog 45 #[.agg #[.int .i64 n, .string v, .string r]] W fun e w' => e = .returned (.tuple #[.string s, .int .i64 0]) ∧ Kept (fun _ => False) W w') :
    Calls Tryz.prog 90 #[.string s] w fun e w' => e = .returned (.tuple #[.agg #[.int .i64 n, .string v, .string r], .int .i64 0]) ∧ Kept (fun _ => False) w w' := by
  have hC1 := fun W => clone_walk v W hv
  have hC2 := fun W => clone_walk r W hr
  have HR := Lib.hid (Box.made w 23 zeroE)
  have HK := Lib.hid ((Kept.refl (fun _ => False) w).alloc (.cells zeroE 23))
  go_enter Tryz.func90, Tryz.ntmps90
  go_wp2_with (go_at_call 99; refine (hSp _ HK.out).mono ?_; rintro e w5 ⟨rfl, hk5⟩; have HR := Lib.hid (hk5.box HR.out (fun h => h)); have HNE := Lib.hid (Nat.ne_of_lt HR.out.lt); have HGE := Lib.hid (Nat.le_of_lt HR.out.lt); have HK := Lib.hid (HK.out.trans hk5 (fun _ _ h => h)); clear hk5; refine Hid.out ?_)
  refine Lib.hid ?_
  have HE := Lib.hid (Box.made w5 23 #[.int .i64 n, .string v, .string r])
  have HR := Lib.hid (HR.out.after_alloc (.cells #[.int .i64 n, .string v, .string r] 23))
  have HK := Lib.hid (HK.out.alloc (.cells #[.int .i64 n, .string v, .string r] 23))
  go_wp2_with (go_at_call 45; refine (hSh _ HK.out).mono ?_; rintro e w6 ⟨rfl, hk6⟩; have HR := Lib.hid (hk6.box HR.out (fun h => h)); have HE := Lib.hid (hk6.box HE.out (fun h => h)); have HK := Lib.hid (HK.out.trans hk6 (fun _ _ h => h)); have r0 := HR.out.cell 0; have r1 := HR.out.cell 1; have r2 := HR.out.cell 2; have e0 := HE.out.cell 0; have e1 := HE.out.cell 1; have e2 := HE.out.cell 2; have t0 := HR.out.free 0; have t1 := HR.out.free 1; have t2 := HR.out.free 2; have u0 := HE.out.free 0; have u1 := HE.out.free 1; have u2 := HE.out.free 2; clear hk6)
  have HR := Lib.hid (show Box w6.drew w.heap.size 23 zeroE from HR.out)
  have HE := Lib.hid (show Box w6.drew w5.heap.size 23 #[.int .i64 n, .string v, .string r] from HE.out)
  have HK := Lib.hid HK.out.drew
  go_region_with (first
    | (go_at_call 41; (first | (with_reducible refine (hC1 _).mono ?_) | (with_reducible refine (hC2 _).mono ?_)); rintro e w7 ⟨rfl, hk7⟩; have HR := Lib.hid (hk7.box HR.out (fun h => h)); have HE := Lib.hid (hk7.box HE.out (fun h => h)); have HK := Lib.hid (HK.out.trans hk7 (fun _ _ h => h)); have r0 := HR.out.cell 0; have r1 := HR.out.cell 1; have r2 := HR.out.cell 2; have e0 := HE.out.cell 0; have e1 := HE.out.cell 1; have e2 := HE.out.cell 2; have t0 := HR.out.free 0; have t1 := HR.out.free 1; have t2 := HR.out.free 2; have u0 := HE.out.free 0; have u1 := HE.out.free 1; have u2 := HE.out.free 2; clear hk7)
    | fail)
  all_goals
    have hE : Box ((w7.setCell ⟨w5.heap.size, 1, none⟩ (.string v)).setCell ⟨w5.heap.size, 2, none⟩ (.string r)) w5.heap.size 23 #[.int .i64 n, .string v, .string r] := (HE.out.stored 1 (.string v)).stored 2 (.string r)
    have hR : Box ((w7.setCell ⟨w5.heap.size, 1, none⟩ (.string v)).setCell ⟨w5.heap.size, 2, none⟩ (.string r)) w.heap.size 23 zeroE := box_off (box_off HR.out _ HNE.out _) _ HNE.out _
    have hK : Kept (fun _ => False) w ((w7.setCell ⟨w5.heap.size, 1, none⟩ (.string v)).setCell ⟨w5.heap.size, 2, none⟩ (.string r)) := (HK.out.setCell (p := ⟨w5.heap.size, 1, none⟩) (.inr HGE.out) _).setCell (p := ⟨w5.heap.size, 2, none⟩) (.inr HGE.out) _
    generalize (w7.setCell ⟨w5.heap.size, 1, none⟩ (.string v)).setCell ⟨w5.heap.size, 2, none⟩ (.string r) = W9 at hE hR hK ⊢
    have HE := Lib.hid hE
    have HR := Lib.hid hR
    have HK := Lib.hid hK
    clear hE hR hK
    have r0 := HR.out.cell 0
    have r1 := HR.out.cell 1
    have r2 := HR.out.cell 2
    have e0 := HE.out.cell 0
    have e1 := HE.out.cell 1
    have e2 := HE.out.cell 2
    have t0 := HR.out.free 0
    have t1 := HR.out.free 1
    have t2 := HR.out.free 2
    have u0 := HE.out.free 0
    have u1 := HE.out.free 1
    have u2 := HE.out.free 2
    go_wp2_with fail
    exact bodyPost_ret (parseP_result _ w.heap.size _ _ _ _ _ rfl rfl (((HR.out.stored 0 _).stored 1 _).stored 2 _)) rfl ⟨rfl, three HK.out _ _ _⟩

set_option maxRecDepth 100000 in
set_option maxHeartbeats 2000000 in
theorem parseP_bad (s : ByteArray) (n : Int) (v r t : ByteArray) (er : Int) (h : er = 4 ∨ (er = 0 ∧ t ≠ s))
    (w : World) (hSp : ∀ W, Kept (fun _ => False) w W → Calls Tryz.prog 99 #[.string s] W fun e w' => e = .returned (.agg #[.int .i64 n, .string v, .string r]) ∧ Kept (fun _ => False) W w')
    (hSh : ∀ W, Kept (fun _ => False) w W → Calls Tryz.prog 45 #[.agg #[.int .i64 n, .string v, .string r]] W fun e w' => e = .returned (.tuple #[.string t, .int .i64 er]) ∧ Kept (fun _ => False) W w') :
    Calls Tryz.prog 90 #[.string s] w fun e w' => e = .returned (.tuple #[.agg #[.int .i64 0, .string ⟨#[]⟩, .string ⟨#[]⟩], .int .i64 4]) ∧ Kept (fun _ => False) w w' := by
  have HR := Lib.hid (Box.made w 23 zeroE)
  have HK := Lib.hid ((Kept.refl (fun _ => False) w).alloc (.cells zeroE 23))
  rcases h with rfl | ⟨rfl, hne⟩
  case' inr =>
    have g1 : ¬ t.toList = s.toList := fun e => hne (bytes_ext (by rw [← ByteArray.toList_eq, ← ByteArray.toList_eq]; exact e))
    have g2 : (t.toList == s.toList) = false := beq_eq_false_iff_ne.2 g1
    clear hne
  all_goals
    go_enter Tryz.func90, Tryz.ntmps90
    go_wp2_with (go_at_call 99; refine (hSp _ HK.out).mono ?_; rintro e w5 ⟨rfl, hk5⟩; have HR := Lib.hid (hk5.box HR.out (fun h => h)); have HNE := Lib.hid (Nat.ne_of_lt HR.out.lt); have HGE := Lib.hid (Nat.le_of_lt HR.out.lt); have HK := Lib.hid (HK.out.trans hk5 (fun _ _ h => h)); clear hk5; refine Hid.out ?_)
    refine Lib.hid ?_
    have HE := Lib.hid (Box.made w5 23 #[.int .i64 n, .string v, .string r])
    have HR := Lib.hid (HR.out.after_alloc (.cells #[.int .i64 n, .string v, .string r] 23))
    have HK := Lib.hid (HK.out.alloc (.cells #[.int .i64 n, .string v, .string r] 23))
    go_wp2_with (go_at_call 45; refine (hSh _ HK.out).mono ?_; rintro e w6 ⟨rfl, hk6⟩; have HR := Lib.hid (hk6.box HR.out (fun h => h)); have HE := Lib.hid (hk6.box HE.out (fun h => h)); have HK := Lib.hid (HK.out.trans hk6 (fun _ _ h => h)); have r0 := HR.out.cell 0; have r1 := HR.out.cell 1; have r2 := HR.out.cell 2; have e0 := HE.out.cell 0; have e1 := HE.out.cell 1; have e2 := HE.out.cell 2; have t0 := HR.out.free 0; have t1 := HR.out.free 1; have t2 := HR.out.free 2; have u0 := HE.out.free 0; have u1 := HE.out.free 1; have u2 := HE.out.free 2; clear hk6)
    exact bodyPost_ret (parseP_result _ w.heap.size _ _ _ _ _ rfl rfl (((HR.out.stored 0 _).stored 1 _).stored 2 _)) rfl ⟨rfl, three HK.out _ _ _⟩

theorem parseK_walk {w0 : World} (hL : LibW w0) : ParseK3 w0 := by
  intro s w hs hw
  obtain ⟨n, v, r, he, hv, hr, _⟩ := split_walk hL s hs w hw
  have hSp : ∀ W, Kept (fun _ => False) w W → Calls Tryz.prog 99 #[.string s] W fun e w' => e = .returned (.agg #[.int .i64 n, .string v, .string r]) ∧ Kept (fun _ => False) W w' := by
    intro W hW
    obtain ⟨n', v', r', he', _, _, h⟩ := split_walk hL s hs W (hw.trans hW (fun _ _ h => h))
    have e2 : evrE n' v' r' = evrE n v r := he'.trans he.symm
    simp only [evrE, E.mk.injEq] at e2
    obtain ⟨q1, q2, q3⟩ := e2
    rw [q1, bytes_ext q2, bytes_ext q3] at h
    exact h
  have hSh := fun W (hW : Kept (fun _ => False) w W) => showK_walk hL n v r W (by omega) (by omega) (hw.trans hW (fun _ _ h => h))
  by_cases hm : mayE (evrE n v r) true = true
  · obtain ⟨t, ht⟩ : ∃ t : ByteArray, t = ⟨(showE (evrE n v r)).toArray⟩ := ⟨_, rfl⟩
    have ht2 : t.data.toList = showE (evrE n v r) := by rw [ht]
    rw [show_yes hm ht2] at hSh
    by_cases hts : t = s
    · subst hts
      have hp : parseA t.data.toList = .tuple #[.agg #[.int .i64 n, .string v, .string r], .int .i64 0] := by
        unfold parseA
        rw [parse_some (by rw [← he]; exact hm) (by rw [← he]; exact ht2.symm), ← he]
        rfl
      rw [hp]
      exact parseP_yes t n v r (by omega) (by omega) w hSp hSh
    · have hp : parseA s.data.toList = .tuple #[.agg #[.int .i64 0, .string ⟨#[]⟩, .string ⟨#[]⟩], .int .i64 4] := by
        unfold parseA
        rw [parse_none (by
          rintro ⟨_, h⟩
          rw [← he, ← ht2] at h
          exact hts (bytes_ext h))]
        rfl
      rw [hp]
      exact parseP_bad s n v r t 0 (.inr ⟨rfl, hts⟩) w hSp hSh
  · have hm : mayE (evrE n v r) true = false := by simpa using hm
    rw [show_no hm] at hSh
    have hp : parseA s.data.toList = .tuple #[.agg #[.int .i64 0, .string ⟨#[]⟩, .string ⟨#[]⟩], .int .i64 4] := by
      unfold parseA
      rw [parse_none (by
        rintro ⟨h, _⟩
        rw [← he, hm] at h
        cases h)]
      rfl
    rw [hp]
    exact parseP_bad s n v r ⟨#[]⟩ 4 (.inl rfl) w hSp hSh
end Go.Proofs.YtoebokgpdkklmaaGreatDoor

namespace Go.Proofs.YtoebokgpdkklmaaGreatDoor
open Go.RowKit Ver Evr Span Dep

/-- A dependency as cells. -/
abbrev depC (nm : ByteArray) (o : Nat) (n : Int) (v r : ByteArray) : Array Value := #[.string nm, .int .u8 (o : Int), .int .i64 n, .string v, .string r]
abbrev zeroC : Array Value := #[.string ⟨#[]⟩, .int .u8 0, .int .i64 0, .string ⟨#[]⟩, .string ⟨#[]⟩]
/-- What Of and Parse answer. -/
def ofV : Option D → Value
  | some d => .tuple #[.agg #[.string ⟨d.name.toArray⟩, .int .u8 (d.op : Int), .int .i64 d.evr.epoch, .string ⟨d.evr.ver.toArray⟩, .string ⟨d.evr.rel.toArray⟩], .int .i64 0]
  | none => .tuple #[.agg #[.string ⟨#[]⟩, .int .u8 0, .int .i64 0, .string ⟨#[]⟩, .string ⟨#[]⟩], .int .i64 4]
theorem of_back (nm : ByteArray) (o : Nat) (n : Int) (v r : ByteArray) : ofV (some (dD nm o n v r)) = .tuple #[.agg #[.string nm, .int .u8 (o : Int), .int .i64 n, .string v, .string r], .int .i64 0] := rfl
abbrev textsB (xs : List ByteArray) : List (List UInt8) := xs.map (·.data.toList)
theorem dep_pair {fn : Func} (hf : fn.results = #[.cell 2 25, .tmp 3]) (tmps : Array Value) (W : World) (g : Nat) (a b c d e x : Value) (h1 : tmps[2]?.getD undef = .pointer (some ⟨g, 0, none⟩)) (h2 : tmps[3]?.getD undef = x) (hB : Box W g 25 #[a, b, c, d, e]) :
    (results fn tmps).run Tryz.prog W = .ok (.tuple #[.agg #[a, b, c, d, e], x]) W := by
  have c0 : W.cell? ⟨g, 0, none⟩ = some a := hB.cell 0
  have c1 : W.cell? ⟨g, 1, none⟩ = some b := hB.cell 1
  have c2 : W.cell? ⟨g, 2, none⟩ = some c := hB.cell 2
  have c3 : W.cell? ⟨g, 3, none⟩ = some d := hB.cell 3
  have c4 : W.cell? ⟨g, 4, none⟩ = some e := hB.cell 4
  simp [results, hf, go_sem, h1, h2, c0, c1, c2, c3, c4]
theorem five {S : Nat → Prop} {a w : World} (h : Kept S a w) {g : Nat} (hg : a.heap.size ≤ g) (x0 x1 x2 x3 x4 : Value) : Kept S a (((((w.setCell ⟨g, 0, none⟩ x0).setCell ⟨g, 1, none⟩ x1).setCell ⟨g, 2, none⟩ x2).setCell ⟨g, 3, none⟩ x3).setCell ⟨g, 4, none⟩ x4) :=
  ((((h.setCell (p := ⟨g, 0, none⟩) (.inr hg) _).setCell (p := ⟨g, 1, none⟩) (.inr hg) _).setCell (p := ⟨g, 2, none⟩) (.inr hg) _).setCell (p := ⟨g, 3, none⟩) (.inr hg) _).setCell (p := ⟨g, 4, none⟩) (.inr hg) _
theorem five_box {w : World} {g : Nat} {t : TypeId} {a b c d e : Value} (h : Box w g t #[a, b, c, d, e]) (x0 x1 x2 x3 x4 : Value) : Box (((((w.setCell ⟨g, 0, none⟩ x0).setCell ⟨g, 1, none⟩ x1).setCell ⟨g, 2, none⟩ x2).setCell ⟨g, 3, none⟩ x3).setCell ⟨g, 4, none⟩ x4) g t #[x0, x1, x2, x3, x4] :=
  ((((h.stored 0 _).stored 1 _).stored 2 _).stored 3 _).stored 4 _

set_option maxRecDepth 100000 in
set_option maxHeartbeats 2000000 in
theorem read_one (a : Addr) (cp : Nat) (x : ByteArray) (w : World) (h0 : w.cell? a = some (.string x)) (hlt : a.block < w.heap.size) :
    Calls Tryz.prog 86 #[.slice (some a) 1 cp] w fun e w' => e = .returned (.tuple #[.agg #[.string x, .int .u8 0, .int .i64 0, .string ⟨#[]⟩, .string ⟨#[]⟩], .bool true]) ∧ Kept (fun _ => False) w w' := by
  have HR := Lib.hid (Box.made w 25 #[.string ⟨#[]⟩, .int .u8 0, .int .i64 0, .string ⟨#[]⟩, .string ⟨#[]⟩])
  have HK := Lib.hid ((Kept.refl (fun _ => False) w).alloc (.cells #[.string ⟨#[]⟩, .int .u8 0, .int .i64 0, .string ⟨#[]⟩, .string ⟨#[]⟩] 25))
  have k0 : (w.alloc (.cells #[.string ⟨#[]⟩, .int .u8 0, .int .i64 0, .string ⟨#[]⟩, .string ⟨#[]⟩] 25)).cell? a = some (.string x) := (HK.out.cell hlt (fun h => h)).trans h0
  go_enter Tryz.func86, Tryz.ntmps86
  go_wp2_with fail
  exact bodyPost_ret (dep_pair rfl _ _ w.heap.size _ _ _ _ _ _ rfl rfl (Box.made w _ _)) rfl ⟨rfl, (Kept.refl _ _).alloc _⟩
set_option maxRecDepth 100000 in
set_option maxHeartbeats 2000000 in
theorem read_none (ao : Option Addr) (k cp : Nat) (h1 : k ≠ 1) (h3 : k ≠ 3) (w : World) :
    Calls Tryz.prog 86 #[.slice ao k cp] w fun e w' => e = .returned (.tuple #[.agg #[.string ⟨#[]⟩, .int .u8 0, .int .i64 0, .string ⟨#[]⟩, .string ⟨#[]⟩], .bool false]) ∧ Kept (fun _ => False) w w' := by
  have HR := Lib.hid (Box.made w 25 #[.string ⟨#[]⟩, .int .u8 0, .int .i64 0, .string ⟨#[]⟩, .string ⟨#[]⟩])
  have HK := Lib.hid ((Kept.refl (fun _ => False) w).alloc (.cells #[.string ⟨#[]⟩, .int .u8 0, .int .i64 0, .string ⟨#[]⟩, .string ⟨#[]⟩] 25))
  have g1 : ((k : Int) == 1) = false := by simp; omega
  have g3 : ((k : Int) == 3) = false := by simp; omega
  go_enter Tryz.func86, Tryz.ntmps86
  go_wp2_with fail
  exact bodyPost_ret (dep_pair rfl _ _ w.heap.size _ _ _ _ _ _ rfl rfl (Box.made w _ _)) rfl ⟨rfl, (Kept.refl _ _).alloc _⟩
set_option maxRecDepth 100000 in
set_option maxHeartbeats 2000000 in
theorem read_three (a : Addr) (cp : Nat) (x y z : ByteArray) (op : Nat) (ok : Bool) (n : Int) (v r : ByteArray) (er : Int) (w : World) (h0 : w.cell? a = some (.string x)) (h1 : w.cell? ⟨a.block, a.off + 1, none⟩ = some (.string y)) (h2 : w.cell? ⟨a.block, a.off + 2, none⟩ = some (.string z)) (hlt : a.block < w.heap.size)
    (hS : ∀ W, Kept (fun _ => False) w W → Calls Tryz.prog 85 #[.string y] W fun e w' => e = .returned (.tuple #[.int .u8 (op : Int), .bool ok]) ∧ Kept (fun _ => False) W w')
    (hE : ∀ W, Kept (fun _ => False) w W → Calls Tryz.prog 90 #[.string z] W fun e w' => e = .returned (.tuple #[.agg #[.int .i64 n, .string v, .string r], .int .i64 er]) ∧ Kept (fun _ => False) W w') :
    Calls Tryz.prog 86 #[.slice (some a) 3 cp] w fun e w' => e = .returned (.tuple #[.agg #[.string x, .int .u8 (op : Int), .int .i64 n, .string v, .string r], .bool (ok && er == 0)]) ∧ Kept (fun _ => False) w w' := by
  have HR := Lib.hid (Box.made w 25 #[.string ⟨#[]⟩, .int .u8 0, .int .i64 0, .string ⟨#[]⟩, .string ⟨#[]⟩])
  have HK := Lib.hid ((Kept.refl (fun _ => False) w).alloc (.cells #[.string ⟨#[]⟩, .int .u8 0, .int .i64 0, .string ⟨#[]⟩, .string ⟨#[]⟩] 25))
  have HX : Hid (∀ W, Kept (fun _ => False) w W → W.cell? a = some (.string x) ∧ W.cell? ⟨a.block, a.off + 1, none⟩ = some (.string y) ∧ W.cell? ⟨a.block, a.off + 2, none⟩ = some (.string z)) := Lib.hid (fun W hk => ⟨(hk.cell hlt (fun h => h)).trans h0, (hk.cell (p := ⟨a.block, a.off + 1, none⟩) hlt (fun h => h)).trans h1, (hk.cell (p := ⟨a.block, a.off + 2, none⟩) hlt (fun h => h)).trans h2⟩)
  clear h0 h1 h2
  obtain ⟨k0, k1, k2⟩ := HX.out _ HK.out
  go_enter Tryz.func86, Tryz.ntmps86
  go_wp2_with (first
    | (go_at_call 85; with_reducible refine (hS _ HK.out).mono ?_; rintro e w5 ⟨rfl, hk5⟩; have HR := Lib.hid (hk5.box HR.out (fun h => h)); have HK := Lib.hid (Kept.trans HK.out hk5 (fun _ _ h => h)); obtain ⟨k0, k1, k2⟩ := HX.out _ HK.out; clear hk5)
    | (go_at_call 90; with_reducible refine (hE _ HK.out).mono ?_; rintro e w6 ⟨rfl, hk6⟩; have HR := Lib.hid (hk6.box HR.out (fun h => h)); have HK := Lib.hid (Kept.trans HK.out hk6 (fun _ _ h => h)); clear hk6; refine Hid.out ?_)
    | fail)
  refine Lib.hid ?_
  have HGE := Lib.hid HR.out.lt
  have hE2 := Box.made w6 23 #[.int .i64 n, .string v, .string r]
  have hR2 := HR.out.after_alloc (.cells #[.int .i64 n, .string v, .string r] 23)
  have hK2 := HK.out.alloc (.cells #[.int .i64 n, .string v, .string r] 23)
  go_wp2_with fail
  generalize w6.alloc (.cells #[.int .i64 n, .string v, .string r] 23) = W7 at hE2 hR2 hK2 ⊢
  have HE := Lib.hid hE2
  have HR := Lib.hid hR2
  have HK := Lib.hid hK2
  clear hE2 hR2 hK2
  obtain ⟨k0, k1, k2⟩ := HX.out _ HK.out
  have e0 := HE.out.cell 0
  have e1 := HE.out.cell 1
  have e2 := HE.out.cell 2
  have r0 := HR.out.cell 0
  have r1 := HR.out.cell 1
  have r2 := HR.out.cell 2
  have r3 := HR.out.cell 3
  have r4 := HR.out.cell 4
  have t0 := HR.out.free 0
  have t1 := HR.out.free 1
  have t2 := HR.out.free 2
  have t3 := HR.out.free 3
  have t4 := HR.out.free 4
  cases ok
  all_goals go_region
  all_goals go_wp2_with fail
  all_goals exact bodyPost_ret (dep_pair rfl _ _ w.heap.size _ _ _ _ _ _ rfl rfl (show Box (World.drew _) w.heap.size 25 _ from five_box HR.out _ _ _ _ _)) rfl ⟨rfl, (five HK.out (Nat.le_refl _) _ _ _ _ _).drew⟩
set_option maxRecDepth 100000 in
set_option maxHeartbeats 2000000 in
theorem of_no (va : Value) (nm : ByteArray) (o : Nat) (n : Int) (v r : ByteArray) (w : World) (hRd : ∀ W, Kept (fun _ => False) w W → Calls Tryz.prog 86 #[va] W fun e w' => e = .returned (.tuple #[.agg #[.string nm, .int .u8 (o : Int), .int .i64 n, .string v, .string r], .bool false]) ∧ Kept (fun _ => False) W w') :
    Calls Tryz.prog 79 #[va] w fun e w' => e = .returned (.tuple #[.agg #[.string ⟨#[]⟩, .int .u8 0, .int .i64 0, .string ⟨#[]⟩, .string ⟨#[]⟩], .int .i64 4]) ∧ Kept (fun _ => False) w w' := by
  have HR := Lib.hid (Box.made w 25 #[.string ⟨#[]⟩, .int .u8 0, .int .i64 0, .string ⟨#[]⟩, .string ⟨#[]⟩])
  have HK := Lib.hid ((Kept.refl (fun _ => False) w).alloc (.cells #[.string ⟨#[]⟩, .int .u8 0, .int .i64 0, .string ⟨#[]⟩, .string ⟨#[]⟩] 25))
  go_enter Tryz.func79, Tryz.ntmps79
  go_wp2_with (first
    | (go_at_call 86; with_reducible refine (hRd _ HK.out).mono ?_; rintro e w5 ⟨rfl, hk5⟩; have HR := Lib.hid (hk5.box HR.out (fun h => h)); have HK := Lib.hid (Kept.trans HK.out hk5 (fun _ _ h => h)); clear hk5; refine Hid.out ?_)
    | fail)
  refine Lib.hid ?_
  have HNE := Lib.hid (Nat.ne_of_lt HR.out.lt)
  have HGE := Lib.hid (Nat.le_of_lt HR.out.lt)
  have HD := Lib.hid (Box.made w5 25 #[.string nm, .int .u8 (o : Int), .int .i64 n, .string v, .string r])
  have HR := Lib.hid (HR.out.after_alloc (.cells #[.string nm, .int .u8 (o : Int), .int .i64 n, .string v, .string r] 25))
  have HK := Lib.hid (HK.out.alloc (.cells #[.string nm, .int .u8 (o : Int), .int .i64 n, .string v, .string r] 25))
  have r0 := HR.out.cell 0
  have r1 := HR.out.cell 1
  have r2 := HR.out.cell 2
  have r3 := HR.out.cell 3
  have r4 := HR.out.cell 4
  have t0 := HR.out.free 0
  have t1 := HR.out.free 1
  have t2 := HR.out.free 2
  have t3 := HR.out.free 3
  have t4 := HR.out.free 4
  go_wp2_with fail
  exact bodyPost_ret (dep_pair rfl _ _ w.heap.size _ _ _ _ _ _ rfl rfl (five_box HR.out _ _ _ _ _)) rfl ⟨rfl, five HK.out (Nat.le_refl _) _ _ _ _ _⟩
set_option maxRecDepth 100000 in
set_option maxHeartbeats 2000000 in
theorem of_not (va : Value) (nm : ByteArray) (o : Nat) (n : Int) (v r : ByteArray) (w : World) (hRd : ∀ W, Kept (fun _ => False) w W → Calls Tryz.prog 86 #[va] W fun e w' => e = .returned (.tuple #[.agg #[.string nm, .int .u8 (o : Int), .int .i64 n, .string v, .string r], .bool true]) ∧ Kept (fun _ => False) W w') (hM : ∀ W, Kept (fun _ => False) w W → Calls Tryz.prog 37 #[.agg #[.string nm, .int .u8 (o : Int), .int .i64 n, .string v, .string r]] W fun e w' => e = .returned (.bool false) ∧ Kept (fun _ => False) W w') :
    Calls Tryz.prog 79 #[va] w fun e w' => e = .returned (.tuple #[.agg #[.string ⟨#[]⟩, .int .u8 0, .int .i64 0, .string ⟨#[]⟩, .string ⟨#[]⟩], .int .i64 4]) ∧ Kept (fun _ => False) w w' := by
  have HR := Lib.hid (Box.made w 25 #[.string ⟨#[]⟩, .int .u8 0, .int .i64 0, .string ⟨#[]⟩, .string ⟨#[]⟩])
  have HK := Lib.hid ((Kept.refl (fun _ => False) w).alloc (.cells #[.string ⟨#[]⟩, .int .u8 0, .int .i64 0, .string ⟨#[]⟩, .string ⟨#[]⟩] 25))
  go_enter Tryz.func79, Tryz.ntmps79
  go_wp2_with (first
    | (go_at_call 86; with_reducible refine (hRd _ HK.out).mono ?_; rintro e w5 ⟨rfl, hk5⟩; have HR := Lib.hid (hk5.box HR.out (fun h => h)); have HK := Lib.hid (Kept.trans HK.out hk5 (fun _ _ h => h)); clear hk5; refine Hid.out ?_)
    | fail)
  refine Lib.hid ?_
  have HNE := Lib.hid (Nat.ne_of_lt HR.out.lt)
  have HGE := Lib.hid (Nat.le_of_lt HR.out.lt)
  have HD := Lib.hid (Box.made w5 25 #[.string nm, .int .u8 (o : Int), .int .i64 n, .string v, .string r])
  have HR := Lib.hid (HR.out.after_alloc (.cells #[.string nm, .int .u8 (o : Int), .int .i64 n, .string v, .string r] 25))
  have HK := Lib.hid (HK.out.alloc (.cells #[.string nm, .int .u8 (o : Int), .int .i64 n, .string v, .string r] 25))
  go_wp2_with (first
    | (go_at_call 37; with_reducible refine (hM _ HK.out).mono ?_; rintro e w6 ⟨rfl, hk6⟩; have HR := Lib.hid (hk6.box HR.out (fun h => h)); have HK := Lib.hid (Kept.trans HK.out hk6 (fun _ _ h => h)); have r0 := HR.out.cell 0; have r1 := HR.out.cell 1; have r2 := HR.out.cell 2; have r3 := HR.out.cell 3; have r4 := HR.out.cell 4; have t0 := HR.out.free 0; have t1 := HR.out.free 1; have t2 := HR.out.free 2; have t3 := HR.out.free 3; have t4 := HR.out.free 4; clear hk6)
    | fail)
  exact bodyPost_ret (dep_pair rfl _ _ w.heap.size _ _ _ _ _ _ rfl rfl (five_box HR.out _ _ _ _ _)) rfl ⟨rfl, five HK.out (Nat.le_refl _) _ _ _ _ _⟩
set_option maxRecDepth 100000 in
set_option maxHeartbeats 2000000 in
theorem of_yes (va : Value) (nm : ByteArray) (o : Nat) (n : Int) (v r : ByteArray) (hnm : nm.size ≤ 1000000) (w : World) (hRd : ∀ W, Kept (fun _ => False) w W → Calls Tryz.prog 86 #[va] W fun e w' => e = .returned (.tuple #[.agg #[.string nm, .int .u8 (o : Int), .int .i64 n, .string v, .string r], .bool true]) ∧ Kept (fun _ => False) W w') (hM : ∀ W, Kept (fun _ => False) w W → Calls Tryz.prog 37 #[.agg #[.string nm, .int .u8 (o : Int), .int .i64 n, .string v, .string r]] W fun e w' => e = .returned (.bool true) ∧ Kept (fun _ => False) W w') :
    Calls Tryz.prog 79 #[va] w fun e w' => e = .returned (.tuple #[.agg #[.string nm, .int .u8 (o : Int), .int .i64 n, .string v, .string r], .int .i64 0]) ∧ Kept (fun _ => False) w w' := by
  have hC := fun W => clone_walk nm W hnm
  have HR := Lib.hid (Box.made w 25 #[.string ⟨#[]⟩, .int .u8 0, .int .i64 0, .string ⟨#[]⟩, .string ⟨#[]⟩])
  have HK := Lib.hid ((Kept.refl (fun _ => False) w).alloc (.cells #[.string ⟨#[]⟩, .int .u8 0, .int .i64 0, .string ⟨#[]⟩, .string ⟨#[]⟩] 25))
  go_enter Tryz.func79, Tryz.ntmps79
  go_wp2_with (first
    | (go_at_call 86; with_reducible refine (hRd _ HK.out).mono ?_; rintro e w5 ⟨rfl, hk5⟩; have HR := Lib.hid (hk5.box HR.out (fun h => h)); have HK := Lib.hid (Kept.trans HK.out hk5 (fun _ _ h => h)); clear hk5; refine Hid.out ?_)
    | fail)
  refine Lib.hid ?_
  have HNE := Lib.hid (Nat.ne_of_lt HR.out.lt)
  have HGE := Lib.hid (Nat.le_of_lt HR.out.lt)
  have HD := Lib.hid (Box.made w5 25 #[.string nm, .int .u8 (o : Int), .int .i64 n, .string v, .string r])
  have HR := Lib.hid (HR.out.after_alloc (.cells #[.string nm, .int .u8 (o : Int), .int .i64 n, .string v, .string r] 25))
  have HK := Lib.hid (HK.out.alloc (.cells #[.string nm, .int .u8 (o : Int), .int .i64 n, .string v, .string r] 25))
  have hne := HNE.out
  go_wp2_with (first
    | (go_at_call 37; with_reducible refine (hM _ HK.out).mono ?_; rintro e w6 ⟨rfl, hk6⟩; have HR := Lib.hid (hk6.box HR.out (fun h => h)); have HD := Lib.hid (hk6.box HD.out (fun h => h)); have HK := Lib.hid (Kept.trans HK.out hk6 (fun _ _ h => h)); have r0 := HR.out.cell 0; have r1 := HR.out.cell 1; have r2 := HR.out.cell 2; have r3 := HR.out.cell 3; have r4 := HR.out.cell 4; have t0 := HR.out.free 0; have t1 := HR.out.free 1; have t2 := HR.out.free 2; have t3 := HR.out.free 3; have t4 := HR.out.free 4; have d0 := HD.out.cell 0; have d1 := HD.out.cell 1; have d2 := HD.out.cell 2; have d3 := HD.out.cell 3; have d4 := HD.out.cell 4; have f0 := HD.out.free 0; have f1 := HD.out.free 1; have f2 := HD.out.free 2; have f3 := HD.out.free 3; have f4 := HD.out.free 4; clear hk6)
    | (go_at_call 41; with_reducible refine (hC _).mono ?_; rintro e w7 ⟨rfl, hk7⟩; have HR := Lib.hid (hk7.box HR.out (fun h => h)); have HD := Lib.hid (hk7.box HD.out (fun h => h)); have HK := Lib.hid (Kept.trans HK.out hk7 (fun _ _ h => h)); have r0 := HR.out.cell 0; have r1 := HR.out.cell 1; have r2 := HR.out.cell 2; have r3 := HR.out.cell 3; have r4 := HR.out.cell 4; have t0 := HR.out.free 0; have t1 := HR.out.free 1; have t2 := HR.out.free 2; have t3 := HR.out.free 3; have t4 := HR.out.free 4; have d0 := HD.out.cell 0; have d1 := HD.out.cell 1; have d2 := HD.out.cell 2; have d3 := HD.out.cell 3; have d4 := HD.out.cell 4; have f0 := HD.out.free 0; have f1 := HD.out.free 1; have f2 := HD.out.free 2; have f3 := HD.out.free 3; have f4 := HD.out.free 4; clear hk7)
    | fail)
  exact bodyPost_ret (dep_pair rfl _ _ w.heap.size _ _ _ _ _ _ rfl rfl (five_box (box_off HR.out ⟨w5.heap.size, 0, none⟩ hne (.string nm)) _ _ _ _ _)) rfl ⟨rfl, five (HK.out.setCell (p := ⟨w5.heap.size, 0, none⟩) (.inr HGE.out) _) (Nat.le_refl _) _ _ _ _ _⟩
end Go.Proofs.YtoebokgpdkklmaaGreatDoor
