/-
  The walk over the program's own split: what stands in a text for an epoch, a version, a release. Conditions: as each theorem states.
-/
import Derived.Test.YtncononmlgmabaaDoorEvr3c
import Derived.Test.YtncononmlgmabaaDoorIndex3
import Derived.Test.YtncononmlgmabaaDoorClone
namespace Go.Proofs.YtncononmlgmabaaDoor
open Go.RowKit Ver Evr

theorem scut_at (s : ByteArray) (c : UInt8) (x y : ByteArray) (z : Bool) (w : World) (hs : s.size ≤ 1000000) (h : cut c s.data.toList = (x.data.toList, y.data.toList, z)) :
    Calls Tryd.prog 70 #[.string s, .string ⟨#[c]⟩] w fun e w' => e = .returned (.tuple #[.string x, .string y, .bool z]) ∧ Kept (fun _ => False) w w' := by
  refine (scut_walk s c w hs).mono ?_
  rintro e w' ⟨⟨x', y', z', rfl, hc, _, _⟩, hk⟩
  rw [h] at hc
  simp only [Prod.mk.injEq] at hc
  obtain ⟨h1, h2, h3⟩ := hc
  rw [bytes_ext h1, bytes_ext h2, h3]
  exact ⟨rfl, hk⟩
theorem cut_made (c : UInt8) (s : ByteArray) : ∃ (x y : ByteArray) (z : Bool), cut c s.data.toList = (x.data.toList, y.data.toList, z) ∧ x.size ≤ s.size ∧ y.size ≤ s.size := by
  have hsl : s.data.toList.length = s.size := rfl
  refine ⟨⟨(cut c s.data.toList).1.toArray⟩, ⟨(cut c s.data.toList).2.1.toArray⟩, (cut c s.data.toList).2.2, rfl, ?_, ?_⟩
  · show (cut c s.data.toList).1.toArray.size ≤ s.size
    rcases byte_index c s.data.toList with ⟨_, h⟩ | ⟨i, _, hi, h⟩
    · rw [h]; exact Nat.le_refl _
    · rw [h, ← hsl]; simp; omega
  · show (cut c s.data.toList).2.1.toArray.size ≤ s.size
    rcases byte_index c s.data.toList with ⟨_, h⟩ | ⟨i, _, hi, h⟩
    · rw [h]; simp
    · rw [h, ← hsl]; simp
set_option maxRecDepth 100000 in
set_option maxHeartbeats 2000000 in
theorem split_no (s x y : ByteArray) (z : Bool) (hs : s.size ≤ 1000000) (x0 y0 : ByteArray) (h0 : cut 58 s.data.toList = (x0.data.toList, y0.data.toList, false)) (h : cut 45 s.data.toList = (x.data.toList, y.data.toList, z)) (w : World) :
    Calls Tryd.prog 59 #[.string s] w fun e w' => e = .returned (.agg #[.int .i64 0, .string x, .string y]) ∧ Kept (fun _ => False) w w' := by
  have C1 := fun W => scut_at s 58 x0 y0 false W hs h0
  have C2 := fun W => scut_at s 45 x y z W hs h
  clear h0 h
  have bR := (Box.made w 25 zeroE).after_alloc (.cells zeroE 25)
  have bE := Box.made (w.alloc (.cells zeroE 25)) 25 zeroE
  rw [World.size_alloc] at bE
  have HR := Lib.hid bR
  have HE := Lib.hid bE
  have HK := Lib.hid (((Kept.refl (fun _ => False) w).alloc (.cells zeroE 25)).alloc (.cells zeroE 25))
  clear bR bE
  go_enter Tryd.func59, Tryd.ntmps59
  go_wp2_with (go_at_call 70; (first | (with_reducible refine (C1 _).mono ?_) | (with_reducible refine (C2 _).mono ?_)); rintro e w5 ⟨rfl, hk5⟩; have HR := Lib.hid (hk5.box HR.out (fun h => h)); have HE := Lib.hid (hk5.box HE.out (fun h => h)); have HK := Lib.hid (HK.out.trans hk5 (fun _ _ h => h)); have r0 := HR.out.cell 0; have r1 := HR.out.cell 1; have r2 := HR.out.cell 2; have e0 := HE.out.cell 0; have e1 := HE.out.cell 1; have e2 := HE.out.cell 2; have t0 := HR.out.free 0; have t1 := HR.out.free 1; have t2 := HR.out.free 2; have u0 := HE.out.free 0; have u1 := HE.out.free 1; have u2 := HE.out.free 2; clear hk5)
  have hne : w.heap.size ≠ w.heap.size + 1 := by omega
  have hRs := box_off (box_off HR.out ⟨w.heap.size + 1, 1, none⟩ hne (.string x)) ⟨w.heap.size + 1, 2, none⟩ hne (.string y)
  exact bodyPost_ret (evr_result rfl _ _ w.heap.size _ rfl (((hRs.stored 0 _).stored 1 _).stored 2 _) rfl) rfl ⟨rfl, (((((HK.out.setCell (p := ⟨w.heap.size + 1, 1, none⟩) (.inr (Nat.le_succ _)) _).setCell (p := ⟨w.heap.size + 1, 2, none⟩) (.inr (Nat.le_succ _)) _).setCell (p := ⟨w.heap.size, 0, none⟩) (.inr (Nat.le_refl _)) _).setCell (p := ⟨w.heap.size, 1, none⟩) (.inr (Nat.le_refl _)) _).setCell (p := ⟨w.heap.size, 2, none⟩) (.inr (Nat.le_refl _)) _)⟩
set_option maxRecDepth 100000 in
set_option maxHeartbeats 2000000 in
theorem split_yes {w0 : World} (hL : LibW w0) (s x y : ByteArray) (z : Bool) (hs : s.size ≤ 1000000) (x0 y0 : ByteArray) (hx0 : x0.size ≤ 1000000) (hy0 : y0.size ≤ 1000000) (h0 : cut 58 s.data.toList = (x0.data.toList, y0.data.toList, true)) (h : cut 45 y0.data.toList = (x.data.toList, y.data.toList, z)) (w : World) (hw : Kept (fun _ => False) w0 w) :
    Calls Tryd.prog 59 #[.string s] w fun e w' => e = .returned (.agg #[.int .i64 (numV x0.data.toList), .string x, .string y]) ∧ Kept (fun _ => False) w w' := by
  have C1 := fun W => scut_at s 58 x0 y0 true W hs h0
  have C2 := fun W => scut_at y0 45 x y z W hy0 h
  have A1 := fun W hW => atoi_walk x0 W (hL.kept hW) hx0
  generalize numV x0.data.toList = N at *
  have HW := Lib.hid hw
  clear h0 h hw hL
  have bR := (Box.made w 25 zeroE).after_alloc (.cells zeroE 25)
  have bE := Box.made (w.alloc (.cells zeroE 25)) 25 zeroE
  rw [World.size_alloc] at bE
  have HR := Lib.hid bR
  have HE := Lib.hid bE
  have HK := Lib.hid (((Kept.refl (fun _ => False) w).alloc (.cells zeroE 25)).alloc (.cells zeroE 25))
  clear bR bE
  have hne : w.heap.size ≠ w.heap.size + 1 := by omega
  have HNE := Lib.hid hne
  clear hne
  go_enter Tryd.func59, Tryd.ntmps59
  go_wp2_with (go_at_call 70; refine (C1 _).mono ?_; rintro e w5 ⟨rfl, hk5⟩; have HR := Lib.hid (hk5.box HR.out (fun h => h)); have HE := Lib.hid (hk5.box HE.out (fun h => h)); have HK := Lib.hid (HK.out.trans hk5 (fun _ _ h => h)); have r0 := HR.out.cell 0; have r1 := HR.out.cell 1; have r2 := HR.out.cell 2; have e0 := HE.out.cell 0; have e1 := HE.out.cell 1; have e2 := HE.out.cell 2; have t0 := HR.out.free 0; have t1 := HR.out.free 1; have t2 := HR.out.free 2; have u0 := HE.out.free 0; have u1 := HE.out.free 1; have u2 := HE.out.free 2; clear hk5; refine Hid.out ?_)
  refine Lib.hid ?_
  go_wp2_with (go_at_call 71; refine (A1 _ (HW.out.trans HK.out (fun _ _ h => h))).mono ?_; rintro e w6 ⟨⟨ev, rfl⟩, hk6⟩; have HR := Lib.hid (hk6.box HR.out (fun h => h)); have HE := Lib.hid (hk6.box HE.out (fun h => h)); have HK := Lib.hid (HK.out.trans hk6 (fun _ _ h => h)); have r0 := HR.out.cell 0; have r1 := HR.out.cell 1; have r2 := HR.out.cell 2; have e0 := HE.out.cell 0; have e1 := HE.out.cell 1; have e2 := HE.out.cell 2; have t0 := HR.out.free 0; have t1 := HR.out.free 1; have t2 := HR.out.free 2; have u0 := HE.out.free 0; have u1 := HE.out.free 1; have u2 := HE.out.free 2; clear hk6; refine Hid.out ?_)
  refine Lib.hid ?_
  go_wp2_with (go_at_call 70; refine (C2 _).mono ?_; rintro e w7 ⟨rfl, hk7⟩; have HR := Lib.hid (hk7.box (box_off HR.out ⟨w.heap.size + 1, 0, none⟩ HNE.out (.int .i64 N)) (fun h => h)); have HE := Lib.hid (hk7.box (HE.out.stored 0 (.int .i64 N)) (fun h => h)); have HK := Lib.hid ((HK.out.setCell (p := ⟨w.heap.size + 1, 0, none⟩) (.inr (Nat.le_succ _)) (.int .i64 N)).trans hk7 (fun _ _ h => h)); have r0 := HR.out.cell 0; have r1 := HR.out.cell 1; have r2 := HR.out.cell 2; have e0 := HE.out.cell 0; have e1 := HE.out.cell 1; have e2 := HE.out.cell 2; have t0 := HR.out.free 0; have t1 := HR.out.free 1; have t2 := HR.out.free 2; have u0 := HE.out.free 0; have u1 := HE.out.free 1; have u2 := HE.out.free 2; clear hk7)
  have hne := HNE.out
  have hRs := box_off (box_off HR.out ⟨w.heap.size + 1, 1, none⟩ hne (.string x)) ⟨w.heap.size + 1, 2, none⟩ hne (.string y)
  exact bodyPost_ret (evr_result rfl _ _ w.heap.size _ rfl (((hRs.stored 0 _).stored 1 _).stored 2 _) rfl) rfl ⟨rfl, (((((HK.out.setCell (p := ⟨w.heap.size + 1, 1, none⟩) (.inr (Nat.le_succ _)) _).setCell (p := ⟨w.heap.size + 1, 2, none⟩) (.inr (Nat.le_succ _)) _).setCell (p := ⟨w.heap.size, 0, none⟩) (.inr (Nat.le_refl _)) _).setCell (p := ⟨w.heap.size, 1, none⟩) (.inr (Nat.le_refl _)) _).setCell (p := ⟨w.heap.size, 2, none⟩) (.inr (Nat.le_refl _)) _)⟩
theorem split_walk {w0 : World} (hL : LibW w0) (s : ByteArray) (hs : s.size ≤ 1000000) (w : World) (hw : Kept (fun _ => False) w0 w) :
    ∃ (n : Int) (v r : ByteArray), evrE n v r = splitE s.data.toList ∧ v.size ≤ s.size ∧ r.size ≤ s.size ∧
      Calls Tryd.prog 59 #[.string s] w fun e w' => e = .returned (.agg #[.int .i64 n, .string v, .string r]) ∧ Kept (fun _ => False) w w' := by
  obtain ⟨x0, y0, z0, h0, hx0, hy0⟩ := cut_made 58 s
  cases z0 with
  | false =>
    obtain ⟨x, y, z, h, hx, hy⟩ := cut_made 45 s
    refine ⟨0, x, y, ?_, hx, hy, split_no s x y z hs x0 y0 h0 h w⟩
    unfold splitE evrE
    rw [h0, h]
    rfl
  | true =>
    obtain ⟨x, y, z, h, hx, hy⟩ := cut_made 45 y0
    refine ⟨numV x0.data.toList, x, y, ?_, by omega, by omega, split_yes hL s x y z hs x0 y0 (by omega) (by omega) h0 h w hw⟩
    unfold splitE evrE
    rw [h0]
    simp only [h]
    rfl
end Go.Proofs.YtncononmlgmabaaDoor
