/-
  The walk over the program's own text of layer 6: Own. Conditions: as each theorem states.
-/
import Derived.Test.YtncononmlgmabaaDoorOf6
import Derived.Deep.RegionWith
namespace Go.Proofs.YtncononmlgmabaaDoor
open Go.RowKit Ver Evr Span Dep

theorem dep_result6 {fn : Func} {p : Tmp} (h : fn.results = #[.cell p 27]) (tmps : Array Value) (W : World) (g : Nat) (cs : Array Value) (hp : tmps.getD p undef = .pointer (some ⟨g, 0, none⟩)) (hB : Box W g 27 cs) (hs : cs.size = 5) :
    (results fn tmps).run Tryd.prog W = .ok (.agg cs) W :=
  results_cell_row h tmps W g 27 cs (0, 0) _ hp hB Tryd.underlying27 rfl (by rw [hs]; kernel_rfl)
set_option maxRecDepth 100000 in
set_option maxHeartbeats 2000000 in
theorem own6_walk (nm : ByteArray) (n : Int) (v r : ByteArray) (hn : nm.size ≤ 1000000) (hv : v.size ≤ 1000000) (hr : r.size ≤ 1000000) (w : World) :
    Calls Tryd.prog 20 #[.string nm, .agg #[.int .i64 n, .string v, .string r]] w fun e w' => e = .returned (.agg #[.string nm, .int .u8 2, .int .i64 n, .string v, .string r]) ∧ Kept (fun _ => False) w w' := by
  have hC1 := fun W => clone_walk v W hv
  have hC2 := fun W => clone_walk r W hr
  have hC3 := fun W => clone_walk nm W hn
  have hE0 := (Box.made w 25 #[.int .i64 n, .string v, .string r]).after_alloc (.cells #[.string ⟨#[]⟩, .int .u8 0, .int .i64 0, .string ⟨#[]⟩, .string ⟨#[]⟩] 27)
  have hR0 := Box.made (w.alloc (.cells #[.int .i64 n, .string v, .string r] 25)) 27 #[.string ⟨#[]⟩, .int .u8 0, .int .i64 0, .string ⟨#[]⟩, .string ⟨#[]⟩]
  rw [World.size_alloc] at hR0
  have hK0 := ((Kept.refl (fun _ => False) w).alloc (.cells #[.int .i64 n, .string v, .string r] 25)).alloc (.cells #[.string ⟨#[]⟩, .int .u8 0, .int .i64 0, .string ⟨#[]⟩, .string ⟨#[]⟩] 27)
  have hne : w.heap.size + 1 ≠ w.heap.size := by omega
  have HNE := Lib.hid hne
  clear hne
  go_enter Tryd.func20, Tryd.ntmps20
  go_wp2_with fail
  generalize (w.alloc (.cells #[.int .i64 n, .string v, .string r] 25)).alloc (.cells #[.string ⟨#[]⟩, .int .u8 0, .int .i64 0, .string ⟨#[]⟩, .string ⟨#[]⟩] 27) = W0 at hE0 hR0 hK0 ⊢
  have HE := Lib.hid (show Box W0.drew w.heap.size 25 #[.int .i64 n, .string v, .string r] from hE0)
  have HR := Lib.hid (show Box W0.drew (w.heap.size + 1) 27 #[.string ⟨#[]⟩, .int .u8 0, .int .i64 0, .string ⟨#[]⟩, .string ⟨#[]⟩] from hR0)
  have HK := Lib.hid hK0.drew
  clear hE0 hR0 hK0
  have e0 := HE.out.cell 0
  have e1 := HE.out.cell 1
  have e2 := HE.out.cell 2
  have u0 := HE.out.free 0
  have u1 := HE.out.free 1
  have u2 := HE.out.free 2
  have r0 := HR.out.cell 0
  have r1 := HR.out.cell 1
  have r2 := HR.out.cell 2
  have r3 := HR.out.cell 3
  have r4 := HR.out.cell 4
  have t0 := HR.out.free 0
  have t1 := HR.out.free 1
  have t2 := HR.out.free 2
  have t3 := HR.out.free 3
  have t4 := HR.out.free 4
  go_region_with ((first
    | (go_at_call 26; (first | (with_reducible refine (hC1 _).mono ?_) | (with_reducible refine (hC2 _).mono ?_)); rintro e w7 ⟨rfl, hk7⟩; have HR := Lib.hid (hk7.box HR.out (fun h => h)); have HE := Lib.hid (hk7.box HE.out (fun h => h)); have HK := Lib.hid (Kept.trans HK.out hk7 (fun _ _ h => h)); have e0 := HE.out.cell 0; have e1 := HE.out.cell 1; have e2 := HE.out.cell 2; have u0 := HE.out.free 0; have u1 := HE.out.free 1; have u2 := HE.out.free 2; have r0 := HR.out.cell 0; have r1 := HR.out.cell 1; have r2 := HR.out.cell 2; have r3 := HR.out.cell 3; have r4 := HR.out.cell 4; have t0 := HR.out.free 0; have t1 := HR.out.free 1; have t2 := HR.out.free 2; have t3 := HR.out.free 3; have t4 := HR.out.free 4; clear hk7)
    | fail))
  all_goals
    have hE9 : Box ((w7.setCell ⟨w.heap.size, 1, none⟩ (.string v)).setCell ⟨w.heap.size, 2, none⟩ (.string r)) w.heap.size 25 #[.int .i64 n, .string v, .string r] := (HE.out.stored 1 (.string v)).stored 2 (.string r)
    have hR9 : Box ((w7.setCell ⟨w.heap.size, 1, none⟩ (.string v)).setCell ⟨w.heap.size, 2, none⟩ (.string r)) (w.heap.size + 1) 27 #[.string ⟨#[]⟩, .int .u8 0, .int .i64 0, .string ⟨#[]⟩, .string ⟨#[]⟩] := box_off (box_off HR.out ⟨w.heap.size, 1, none⟩ HNE.out _) ⟨w.heap.size, 2, none⟩ HNE.out _
    have hK9 : Kept (fun _ => False) w ((w7.setCell ⟨w.heap.size, 1, none⟩ (.string v)).setCell ⟨w.heap.size, 2, none⟩ (.string r)) := (HK.out.setCell (p := ⟨w.heap.size, 1, none⟩) (.inr (Nat.le_refl _)) _).setCell (p := ⟨w.heap.size, 2, none⟩) (.inr (Nat.le_refl _)) _
    generalize (w7.setCell ⟨w.heap.size, 1, none⟩ (.string v)).setCell ⟨w.heap.size, 2, none⟩ (.string r) = W9 at hE9 hR9 hK9 ⊢
    go_wp2_with fail
    have HE := Lib.hid (show Box W9.drew w.heap.size 25 #[.int .i64 n, .string v, .string r] from hE9)
    have HR := Lib.hid (show Box W9.drew (w.heap.size + 1) 27 #[.string ⟨#[]⟩, .int .u8 0, .int .i64 0, .string ⟨#[]⟩, .string ⟨#[]⟩] from hR9)
    have HK := Lib.hid hK9.drew
    clear hE9 hR9 hK9
    have e0 := HE.out.cell 0
    have e1 := HE.out.cell 1
    have e2 := HE.out.cell 2
    have u0 := HE.out.free 0
    have u1 := HE.out.free 1
    have u2 := HE.out.free 2
    have r0 := HR.out.cell 0
    have r1 := HR.out.cell 1
    have r2 := HR.out.cell 2
    have r3 := HR.out.cell 3
    have r4 := HR.out.cell 4
    have t0 := HR.out.free 0
    have t1 := HR.out.free 1
    have t2 := HR.out.free 2
    have t3 := HR.out.free 3
    have t4 := HR.out.free 4
    go_region_with ((first
      | (go_at_call 26; (with_reducible refine (hC3 _).mono ?_); rintro e w8 ⟨rfl, hk8⟩; have HR := Lib.hid (hk8.box HR.out (fun h => h)); have HE := Lib.hid (hk8.box HE.out (fun h => h)); have HK := Lib.hid (Kept.trans HK.out hk8 (fun _ _ h => h)); have e0 := HE.out.cell 0; have e1 := HE.out.cell 1; have e2 := HE.out.cell 2; have u0 := HE.out.free 0; have u1 := HE.out.free 1; have u2 := HE.out.free 2; have r0 := HR.out.cell 0; have r1 := HR.out.cell 1; have r2 := HR.out.cell 2; have r3 := HR.out.cell 3; have r4 := HR.out.cell 4; have t0 := HR.out.free 0; have t1 := HR.out.free 1; have t2 := HR.out.free 2; have t3 := HR.out.free 3; have t4 := HR.out.free 4; clear hk8)
      | fail))
  all_goals
    go_wp2_with fail
    exact bodyPost_ret (dep_result6 rfl _ _ (w.heap.size + 1) _ rfl (five_box HR.out _ _ _ _ _) rfl) rfl ⟨rfl, five HK.out (Nat.le_succ _) _ _ _ _ _⟩
end Go.Proofs.YtncononmlgmabaaDoor
