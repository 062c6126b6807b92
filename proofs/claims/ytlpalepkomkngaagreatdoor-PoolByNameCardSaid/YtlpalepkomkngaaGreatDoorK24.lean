/-
  The walk over the program's own split: what stands in a text for an epoch, a version, a release. The walk over the program's own Parse: the EVR of a text. The walks over the program's own text of layer 6: the dependency of words. Conditions: the library's variables and the array of words that are no names lie as their texts lay them. The walk over the program's own text of layer 6: Own. The walks over the program's own text of layer 10: Own, meets, Named, Obsoletes, Provides. Conditions: as each theorem states.
-/
import Derived.Test.YtlpalepkomkngaaGreatDoorK23
import Derived.Test.YtlpalepkomkngaaGreatDoorK21
import Derived.Test.YtlpalepkomkngaaGreatDoorK14
import Derived.Deep.RegionWith
import Derived.BigRegion
import Derived.Test.YtlpalepkomkngaaGreatDoorK04
import Derived.Test.YtlpalepkomkngaaGreatDoorK20
import Derived.Test.YtlpalepkomkngaaGreatDoorK05
import Derived.LoopN
namespace Go.Proofs.YtlpalepkomkngaaGreatDoor
open Go.RowKit Ver Evr

theorem cut_made (c : UInt8) (s : ByteArray) : ∃ (x y : ByteArray) (z : Bool), cut c s.data.toList = (x.data.toList, y.data.toList, z) ∧ x.size ≤ s.size ∧ y.size ≤ s.size := by
  have hsl : s.data.toList.length = s.size := rfl
  refine ⟨⟨(cut c s.data.toList).1.toArray⟩, ⟨(cut c s.data.toList).2.1.toArray⟩, (cut c s.data.toList).2.2, rfl, ?_, ?_⟩
  · show (cut c s.data.toList).1.toArray.size ≤ s.size
    rcases byte_index c s.data.toList with ⟨_, h⟩ | ⟨i, _, hi, h⟩
    · rw [h]; exact Nat.le_refl _
    · rw [h, ← hsl]; simp; omega
  · show (cut c s.data.toList).2.1.toArray.size ≤ s.size
    rcases byte_index c s.data.toList with ⟨_, h⟩ | ⟨i, _, hi, h⟩
    · rw [h]; simp
    · rw [h, ← hsl]; simp
end Go.Proofs.YtlpalepkomkngaaGreatDoor

namespace Go.Proofs.YtlpalepkomkngaaGreatDoor
open Go.RowKit Ver Evr

theorem parse_some {s : List UInt8} (h1 : mayE (splitE s) true = true) (h2 : showE (splitE s) = s) : parseE s = some (splitE s) := by rw [parse_split, if_pos ⟨h1, h2⟩]
theorem parse_none {s : List UInt8} (h : ¬ (mayE (splitE s) true = true ∧ showE (splitE s) = s)) : parseE s = none := by rw [parse_split, if_neg h]

end Go.Proofs.YtlpalepkomkngaaGreatDoor

namespace Go.Proofs.YtlpalepkomkngaaGreatDoor
open Go.RowKit Ver Evr Span Dep

/-- A dependency as cells. -/
abbrev depC (nm : ByteArray) (o : Nat) (n : Int) (v r : ByteArray) : Array Value := #[.string nm, .int .u8 (o : Int), .int .i64 n, .string v, .string r]
abbrev zeroC : Array Value := #[.string ⟨#[]⟩, .int .u8 0, .int .i64 0, .string ⟨#[]⟩, .string ⟨#[]⟩]
/-- What Of and Parse answer. -/
def ofV : Option D → Value
  | some d => .tuple #[.agg #[.string ⟨d.name.toArray⟩, .int .u8 (d.op : Int), .int .i64 d.evr.epoch, .string ⟨d.evr.ver.toArray⟩, .string ⟨d.evr.rel.toArray⟩], .int .i64 0]
  | none => .tuple #[.agg #[.string ⟨#[]⟩, .int .u8 0, .int .i64 0, .string ⟨#[]⟩, .string ⟨#[]⟩], .int .i64 4]
theorem of_back (nm : ByteArray) (o : Nat) (n : Int) (v r : ByteArray) : ofV (some (dD nm o n v r)) = .tuple #[.agg #[.string nm, .int .u8 (o : Int), .int .i64 n, .string v, .string r], .int .i64 0] := rfl
abbrev textsB (xs : List ByteArray) : List (List UInt8) := xs.map (·.data.toList)
theorem dep_pair {fn : Func} (hf : fn.results = #[.cell 2 37, .tmp 3]) (tmps : Array Value) (W : World) (g : Nat) (a b c d e x : Value) (h1 : tmps[2]?.getD undef = .pointer (some ⟨g, 0, none⟩)) (h2 : tmps[3]?.getD undef = x) (hB : Box W g 37 #[a, b, c, d, e]) :
    (results fn tmps).run Tryz.prog W = .ok (.tuple #[.agg #[a, b, c, d, e], x]) W := by
  have c0 : W.cell? ⟨g, 0, none⟩ = some a := hB.cell 0
  have c1 : W.cell? ⟨g, 1, none⟩ = some b := hB.cell 1
  have c2 : W.cell? ⟨g, 2, none⟩ = some c := hB.cell 2
  have c3 : W.cell? ⟨g, 3, none⟩ = some d := hB.cell 3
  have c4 : W.cell? ⟨g, 4, none⟩ = some e := hB.cell 4
  simp [results, hf, go_sem, h1, h2, c0, c1, c2, c3, c4]
theorem five {S : Nat → Prop} {a w : World} (h : Kept S a w) {g : Nat} (hg : a.heap.size ≤ g) (x0 x1 x2 x3 x4 : Value) : Kept S a (((((w.setCell ⟨g, 0, none⟩ x0).setCell ⟨g, 1, none⟩ x1).setCell ⟨g, 2, none⟩ x2).setCell ⟨g, 3, none⟩ x3).setCell ⟨g, 4, none⟩ x4) :=
  ((((h.setCell (p := ⟨g, 0, none⟩) (.inr hg) _).setCell (p := ⟨g, 1, none⟩) (.inr hg) _).setCell (p := ⟨g, 2, none⟩) (.inr hg) _).setCell (p := ⟨g, 3, none⟩) (.inr hg) _).setCell (p := ⟨g, 4, none⟩) (.inr hg) _
theorem five_box {w : World} {g : Nat} {t : TypeId} {a b c d e : Value} (h : Box w g t #[a, b, c, d, e]) (x0 x1 x2 x3 x4 : Value) : Box (((((w.setCell ⟨g, 0, none⟩ x0).setCell ⟨g, 1, none⟩ x1).setCell ⟨g, 2, none⟩ x2).setCell ⟨g, 3, none⟩ x3).setCell ⟨g, 4, none⟩ x4) g t #[x0, x1, x2, x3, x4] :=
  ((((h.stored 0 _).stored 1 _).stored 2 _).stored 3 _).stored 4 _

end Go.Proofs.YtlpalepkomkngaaGreatDoor

namespace Go.Proofs.YtlpalepkomkngaaGreatDoor
open Go.RowKit Ver Evr Span Dep

theorem dep_result6 {fn : Func} {p : Tmp} (h : fn.results = #[.cell p 37]) (tmps : Array Value) (W : World) (g : Nat) (cs : Array Value) (hp : tmps.getD p undef = .pointer (some ⟨g, 0, none⟩)) (hB : Box W g 37 cs) (hs : cs.size = 5) :
    (results fn tmps).run Tryz.prog W = .ok (.agg cs) W :=
  results_cell_row h tmps W g 37 cs (0, 0) _ hp hB Tryz.underlying37 rfl (by rw [hs]; kernel_rfl)
set_option maxRecDepth 100000 in
set_option maxHeartbeats 2000000 in
theorem own6_walk (nm : ByteArray) (n : Int) (v r : ByteArray) (hn : nm.size ≤ 1000000) (hv : v.size ≤ 1000000) (hr : r.size ≤ 1000000) (w : World) :
    Calls Tryz.prog 110 #[.string nm, .agg #[.int .i64 n, .string v, .string r]] w fun e w' => e = .returned (.agg #[.string nm, .int .u8 2, .int .i64 n, .string v, .string r]) ∧ Kept (fun _ => False) w w' := by
  have hC1 := fun W => clone_walk v W hv
  have hC2 := fun W => clone_walk r W hr
  have hC3 := fun W => clone_walk nm W hn
  have hE0 := (Box.made w 23 #[.int .i64 n, .string v, .string r]).after_alloc (.cells #[.string ⟨#[]⟩, .int .u8 0, .int .i64 0, .string ⟨#[]⟩, .string ⟨#[]⟩] 37)
  have hR0 := Box.made (w.alloc (.cells #[.int .i64 n, .string v, .string r] 23)) 37 #[.string ⟨#[]⟩, .int .u8 0, .int .i64 0, .string ⟨#[]⟩, .string ⟨#[]⟩]
  rw [World.size_alloc] at hR0
  have hK0 := ((Kept.refl (fun _ => False) w).alloc (.cells #[.int .i64 n, .string v, .string r] 23)).alloc (.cells #[.string ⟨#[]⟩, .int .u8 0, .int .i64 0, .string ⟨#[]⟩, .string ⟨#[]⟩] 37)
  have hne : w.heap.size + 1 ≠ w.heap.size := by omega
  have HNE := Lib.hid hne
  clear hne
  go_enter Tryz.func110, Tryz.ntmps110
  go_wp2_with fail
  generalize (w.alloc (.cells #[.int .i64 n, .string v, .string r] 23)).alloc (.cells #[.string ⟨#[]⟩, .int .u8 0, .int .i64 0, .string ⟨#[]⟩, .string ⟨#[]⟩] 37) = W0 at hE0 hR0 hK0 ⊢
  have HE := Lib.hid (show Box W0.drew w.heap.size 23 #[.int .i64 n, .string v, .string r] from hE0)
  have HR := Lib.hid (show Box W0.drew (w.heap.size + 1) 37 #[.string ⟨#[]⟩, .int .u8 0, .int .i64 0, .string ⟨#[]⟩, .string ⟨#[]⟩] from hR0)
  have HK := Lib.hid hK0.drew
  clear hE0 hR0 hK0
  have e0 := HE.out.cell 0
  have e1 := HE.out.cell 1
  have e2 := HE.out.cell 2
  have u0 := HE.out.free 0
  have u1 := HE.out.free 1
  have u2 := HE.out.free 2
  have r0 := HR.out.cell 0
  have r1 := HR.out.cell 1
  have r2 := HR.out.cell 2
  have r3 := HR.out.cell 3
  have r4 := HR.out.cell 4
  have t0 := HR.out.free 0
  have t1 := HR.out.free 1
  have t2 := HR.out.free 2
  have t3 := HR.out.free 3
  have t4 := HR.out.free 4
  go_region_with ((first
    | (go_at_call 47; (first | (with_reducible refine (hC1 _).mono ?_) | (with_reducible refine (hC2 _).mono ?_)); rintro e w7 ⟨rfl, hk7⟩; have HR := Lib.hid (hk7.box HR.out (fun h => h)); have HE := Lib.hid (hk7.box HE.out (fun h => h)); have HK := Lib.hid (Kept.trans HK.out hk7 (fun _ _ h => h)); have e0 := HE.out.cell 0; have e1 := HE.out.cell 1; have e2 := HE.out.cell 2; have u0 := HE.out.free 0; have u1 := HE.out.free 1; have u2 := HE.out.free 2; have r0 := HR.out.cell 0; have r1 := HR.out.cell 1; have r2 := HR.out.cell 2; have r3 := HR.out.cell 3; have r4 := HR.out.cell 4; have t0 := HR.out.free 0; have t1 := HR.out.free 1; have t2 := HR.out.free 2; have t3 := HR.out.free 3; have t4 := HR.out.free 4; clear hk7)
    | fail))
  all_goals
    have hE9 : Box ((w7.setCell ⟨w.heap.size, 1, none⟩ (.string v)).setCell ⟨w.heap.size, 2, none⟩ (.string r)) w.heap.size 23 #[.int .i64 n, .string v, .string r] := (HE.out.stored 1 (.string v)).stored 2 (.string r)
    have hR9 : Box ((w7.setCell ⟨w.heap.size, 1, none⟩ (.string v)).setCell ⟨w.heap.size, 2, none⟩ (.string r)) (w.heap.size + 1) 37 #[.string ⟨#[]⟩, .int .u8 0, .int .i64 0, .string ⟨#[]⟩, .string ⟨#[]⟩] := box_off (box_off HR.out ⟨w.heap.size, 1, none⟩ HNE.out _) ⟨w.heap.size, 2, none⟩ HNE.out _
    have hK9 : Kept (fun _ => False) w ((w7.setCell ⟨w.heap.size, 1, none⟩ (.string v)).setCell ⟨w.heap.size, 2, none⟩ (.string r)) := (HK.out.setCell (p := ⟨w.heap.size, 1, none⟩) (.inr (Nat.le_refl _)) _).setCell (p := ⟨w.heap.size, 2, none⟩) (.inr (Nat.le_refl _)) _
    generalize (w7.setCell ⟨w.heap.size, 1, none⟩ (.string v)).setCell ⟨w.heap.size, 2, none⟩ (.string r) = W9 at hE9 hR9 hK9 ⊢
    go_wp2_with fail
    have HE := Lib.hid (show Box W9.drew w.heap.size 23 #[.int .i64 n, .string v, .string r] from hE9)
    have HR := Lib.hid (show Box W9.drew (w.heap.size + 1) 37 #[.string ⟨#[]⟩, .int .u8 0, .int .i64 0, .string ⟨#[]⟩, .string ⟨#[]⟩] from hR9)
    have HK := Lib.hid hK9.drew
    clear hE9 hR9 hK9
    have e0 := HE.out.cell 0
    have e1 := HE.out.cell 1
    have e2 := HE.out.cell 2
    have u0 := HE.out.free 0
    have u1 := HE.out.free 1
    have u2 := HE.out.free 2
    have r0 := HR.out.cell 0
    have r1 := HR.out.cell 1
    have r2 := HR.out.cell 2
    have r3 := HR.out.cell 3
    have r4 := HR.out.cell 4
    have t0 := HR.out.free 0
    have t1 := HR.out.free 1
    have t2 := HR.out.free 2
    have t3 := HR.out.free 3
    have t4 := HR.out.free 4
    go_region_with ((first
      | (go_at_call 47; (with_reducible refine (hC3 _).mono ?_); rintro e w8 ⟨rfl, hk8⟩; have HR := Lib.hid (hk8.box HR.out (fun h => h)); have HE := Lib.hid (hk8.box HE.out (fun h => h)); have HK := Lib.hid (Kept.trans HK.out hk8 (fun _ _ h => h)); have e0 := HE.out.cell 0; have e1 := HE.out.cell 1; have e2 := HE.out.cell 2; have u0 := HE.out.free 0; have u1 := HE.out.free 1; have u2 := HE.out.free 2; have r0 := HR.out.cell 0; have r1 := HR.out.cell 1; have r2 := HR.out.cell 2; have r3 := HR.out.cell 3; have r4 := HR.out.cell 4; have t0 := HR.out.free 0; have t1 := HR.out.free 1; have t2 := HR.out.free 2; have t3 := HR.out.free 3; have t4 := HR.out.free 4; clear hk8)
      | fail))
  all_goals
    go_wp2_with fail
    exact bodyPost_ret (dep_result6 rfl _ _ (w.heap.size + 1) _ rfl (five_box HR.out _ _ _ _ _) rfl) rfl ⟨rfl, five HK.out (Nat.le_succ _) _ _ _ _ _⟩
end Go.Proofs.YtlpalepkomkngaaGreatDoor

namespace Go.Proofs.YtlpalepkomkngaaGreatDoor
open Go.RowKit Ver Evr Span Dep Rich

set_option maxRecDepth 100000 in
set_option maxHeartbeats 4000000 in
theorem meets_no (nm : ByteArray) (o : Nat) (n : Int) (v r nb : ByteArray) (k : Nat) (m : Int) (u x : ByteArray) (h : (nm.toList == nb.toList) = false) (w : World) : Calls Tryz.prog 77 #[.agg #[.string nm, .int .u8 (o : Int), .int .i64 n, .string v, .string r], .agg #[.string nb, .int .u8 (k : Int), .int .i64 m, .string u, .string x]] w fun e w' => e = .returned (.bool false) ∧ Kept (fun _ => False) w w' := by
  have HA := Lib.hid (Box.after_alloc (Box.made w 37 #[.string nm, .int .u8 (o : Int), .int .i64 n, .string v, .string r]) (.cells #[.string nb, .int .u8 (k : Int), .int .i64 m, .string u, .string x] 37))
  have HB := Lib.hid (show Box ((w.alloc (.cells #[.string nm, .int .u8 (o : Int), .int .i64 n, .string v, .string r] 37)).alloc (.cells #[.string nb, .int .u8 (k : Int), .int .i64 m, .string u, .string x] 37)) (w.heap.size + 1) 37 #[.string nb, .int .u8 (k : Int), .int .i64 m, .string u, .string x] from by have h := Box.made (w.alloc (.cells #[.string nm, .int .u8 (o : Int), .int .i64 n, .string v, .string r] 37)) 37 #[.string nb, .int .u8 (k : Int), .int .i64 m, .string u, .string x]; simpa only [World.size_alloc] using h)
  have HK := Lib.hid (((Kept.refl (fun _ => False) w).alloc (.cells #[.string nm, .int .u8 (o : Int), .int .i64 n, .string v, .string r] 37)).alloc (.cells #[.string nb, .int .u8 (k : Int), .int .i64 m, .string u, .string x] 37))
  have ax0 := HA.out.cell 0
  have ax1 := HA.out.cell 1
  have ax2 := HA.out.cell 2
  have ax3 := HA.out.cell 3
  have ax4 := HA.out.cell 4
  have bx0 := HB.out.cell 0
  have bx1 := HB.out.cell 1
  have bx2 := HB.out.cell 2
  have bx3 := HB.out.cell 3
  have bx4 := HB.out.cell 4
  go_enter Tryz.func77, Tryz.ntmps77
  go_wp2_with fail
  go_ret
  exact ⟨rfl, HK.out⟩
set_option maxRecDepth 100000 in
set_option maxHeartbeats 4000000 in
theorem meets_yes (nm : ByteArray) (o : Nat) (n : Int) (v r : ByteArray) (k : Nat) (m : Int) (u x : ByteArray) (c : Bool) (w : World) (hM : (∀ W, Kept (fun _ => False) w W → Calls Tryz.prog 108 #[.agg #[.string nm, .int .u8 (o : Int), .int .i64 n, .string v, .string r], .agg #[.string nm, .int .u8 (k : Int), .int .i64 m, .string u, .string x]] W fun e w' => e = .returned (.bool c) ∧ Kept (fun _ => False) W w')) : Calls Tryz.prog 77 #[.agg #[.string nm, .int .u8 (o : Int), .int .i64 n, .string v, .string r], .agg #[.string nm, .int .u8 (k : Int), .int .i64 m, .string u, .string x]] w fun e w' => e = .returned (.bool c) ∧ Kept (fun _ => False) w w' := by
  have g := eqB_yes nm
  have HA := Lib.hid (Box.after_alloc (Box.made w 37 #[.string nm, .int .u8 (o : Int), .int .i64 n, .string v, .string r]) (.cells #[.string nm, .int .u8 (k : Int), .int .i64 m, .string u, .string x] 37))
  have HB := Lib.hid (show Box ((w.alloc (.cells #[.string nm, .int .u8 (o : Int), .int .i64 n, .string v, .string r] 37)).alloc (.cells #[.string nm, .int .u8 (k : Int), .int .i64 m, .string u, .string x] 37)) (w.heap.size + 1) 37 #[.string nm, .int .u8 (k : Int), .int .i64 m, .string u, .string x] from by have h := Box.made (w.alloc (.cells #[.string nm, .int .u8 (o : Int), .int .i64 n, .string v, .string r] 37)) 37 #[.string nm, .int .u8 (k : Int), .int .i64 m, .string u, .string x]; simpa only [World.size_alloc] using h)
  have HK := Lib.hid (((Kept.refl (fun _ => False) w).alloc (.cells #[.string nm, .int .u8 (o : Int), .int .i64 n, .string v, .string r] 37)).alloc (.cells #[.string nm, .int .u8 (k : Int), .int .i64 m, .string u, .string x] 37))
  have ax0 := HA.out.cell 0
  have ax1 := HA.out.cell 1
  have ax2 := HA.out.cell 2
  have ax3 := HA.out.cell 3
  have ax4 := HA.out.cell 4
  have bx0 := HB.out.cell 0
  have bx1 := HB.out.cell 1
  have bx2 := HB.out.cell 2
  have bx3 := HB.out.cell 3
  have bx4 := HB.out.cell 4
  go_enter Tryz.func77, Tryz.ntmps77
  go_wp2_with (first
    | (go_at_call 108; (with_reducible refine (hM _ HK.out).mono ?_); rintro e w5 ⟨rfl, hk5⟩; have HA := Lib.hid (hk5.box HA.out (fun h => h)); have HB := Lib.hid (hk5.box HB.out (fun h => h)); have HK := Lib.hid (Kept.trans HK.out hk5 (fun _ _ h => h)); have ax0 := HA.out.cell 0; have ax1 := HA.out.cell 1; have ax2 := HA.out.cell 2; have ax3 := HA.out.cell 3; have ax4 := HA.out.cell 4; have bx0 := HB.out.cell 0; have bx1 := HB.out.cell 1; have bx2 := HB.out.cell 2; have bx3 := HB.out.cell 3; have bx4 := HB.out.cell 4; clear hk5)
    | fail)
  go_ret
  exact ⟨rfl, HK.out⟩
theorem meets_walk (d z : De) (hd : DeOk d) (hz : DeOk z) (w : World) : Calls Tryz.prog 77 #[deV d, deV z] w fun e w' => e = .returned (.bool (meetsB d z)) ∧ Kept (fun _ => False) w w' := by
  obtain ⟨nm, o, n, v, r⟩ := d
  obtain ⟨nb, k, m, u, x⟩ := z
  obtain ⟨_, h2, h3, h4⟩ := hd
  obtain ⟨_, g2, g3, g4⟩ := hz
  simp only at h2 h3 h4 g2 g3 g4
  unfold meetsB
  by_cases h : nm = nb
  · subst h
    rw [decide_eq_true rfl, Bool.true_and]
    exact meets_yes nm o n v r k m u x _ w (fun W _ => meet_k nm o n v r nm k m u x W h2 g2 h3 h4 g3 g4)
  · simp only [h, decide_false, Bool.false_and]
    exact meets_no nm o n v r nb k m u x (eqB_no h) w
set_option maxRecDepth 100000 in
set_option maxHeartbeats 4000000 in
theorem own10_walk (nm : ByteArray) (n : Int) (v r : ByteArray) (a : Nat) (vd : ByteArray) (s4 s5 s6 s7 s8 s9 s10 s11 s12 : Value) (hn : nm.size ≤ 1000000) (hv : v.size ≤ 1000000) (hr : r.size ≤ 1000000) (w : World) : Calls Tryz.prog 79 #[.agg #[.string nm, .int .i64 n, .string v, .string r, .int .u8 (a : Int), .string vd, s4, s5, s6, s7, s8, s9, s10, s11, s12]] w fun e w' => e = .returned (.agg #[.string nm, .int .u8 2, .int .i64 n, .string v, .string r]) ∧ Kept (fun _ => False) w w' := by
  have OC := fun W => own6_walk nm n v r hn hv hr W
  have HA := Lib.hid (Box.after_alloc (Box.made w 28 #[.string nm, .int .i64 n, .string v, .string r, .int .u8 (a : Int), .string vd, s4, s5, s6, s7, s8, s9, s10, s11, s12]) (.cells #[.string ⟨#[]⟩, .int .u8 0, .int .i64 0, .string ⟨#[]⟩, .string ⟨#[]⟩] 37))
  have HZ := Lib.hid (show Box ((w.alloc (.cells #[.string nm, .int .i64 n, .string v, .string r, .int .u8 (a : Int), .string vd, s4, s5, s6, s7, s8, s9, s10, s11, s12] 28)).alloc (.cells #[.string ⟨#[]⟩, .int .u8 0, .int .i64 0, .string ⟨#[]⟩, .string ⟨#[]⟩] 37)) (w.heap.size + 1) 37 #[.string ⟨#[]⟩, .int .u8 0, .int .i64 0, .string ⟨#[]⟩, .string ⟨#[]⟩] from by have h := Box.made (w.alloc (.cells #[.string nm, .int .i64 n, .string v, .string r, .int .u8 (a : Int), .string vd, s4, s5, s6, s7, s8, s9, s10, s11, s12] 28)) 37 #[.string ⟨#[]⟩, .int .u8 0, .int .i64 0, .string ⟨#[]⟩, .string ⟨#[]⟩]; simpa only [World.size_alloc] using h)
  have HK := Lib.hid (((Kept.refl (fun _ => False) w).alloc (.cells #[.string nm, .int .i64 n, .string v, .string r, .int .u8 (a : Int), .string vd, s4, s5, s6, s7, s8, s9, s10, s11, s12] 28)).alloc (.cells #[.string ⟨#[]⟩, .int .u8 0, .int .i64 0, .string ⟨#[]⟩, .string ⟨#[]⟩] 37))
  have ax0 := HA.out.cell 0
  have ax1 := HA.out.cell 1
  have ax2 := HA.out.cell 2
  have ax3 := HA.out.cell 3
  have ax4 := HA.out.cell 4
  have ax5 := HA.out.cell 5
  have ax6 := HA.out.cell 6
  have ax7 := HA.out.cell 7
  have ax8 := HA.out.cell 8
  have ax9 := HA.out.cell 9
  have ax10 := HA.out.cell 10
  have ax11 := HA.out.cell 11
  have ax12 := HA.out.cell 12
  have ax13 := HA.out.cell 13
  have ax14 := HA.out.cell 14
  have zx0 := HZ.out.cell 0
  have zx1 := HZ.out.cell 1
  have zx2 := HZ.out.cell 2
  have zx3 := HZ.out.cell 3
  have zx4 := HZ.out.cell 4
  go_enter Tryz.func79, Tryz.ntmps79
  go_wp2_with fail
  refine (OC _).mono ?_
  rintro e w5 ⟨rfl, hk5⟩
  have HA := Lib.hid (hk5.box HA.out (fun h => h))
  have HZ := Lib.hid (hk5.box HZ.out (fun h => h))
  have HK := Lib.hid (Kept.trans HK.out hk5 (fun _ _ h => h))
  have ax0 := HA.out.cell 0
  have ax1 := HA.out.cell 1
  have ax2 := HA.out.cell 2
  have ax3 := HA.out.cell 3
  have ax4 := HA.out.cell 4
  have ax5 := HA.out.cell 5
  have ax6 := HA.out.cell 6
  have ax7 := HA.out.cell 7
  have ax8 := HA.out.cell 8
  have ax9 := HA.out.cell 9
  have ax10 := HA.out.cell 10
  have ax11 := HA.out.cell 11
  have ax12 := HA.out.cell 12
  have ax13 := HA.out.cell 13
  have ax14 := HA.out.cell 14
  have zx0 := HZ.out.cell 0
  have zx1 := HZ.out.cell 1
  have zx2 := HZ.out.cell 2
  have zx3 := HZ.out.cell 3
  have zx4 := HZ.out.cell 4
  clear hk5
  have t0 := HZ.out.free 0
  have t1 := HZ.out.free 1
  have t2 := HZ.out.free 2
  have t3 := HZ.out.free 3
  have t4 := HZ.out.free 4
  go_wp2_with fail
  exact bodyPost_ret (dep_result6 rfl _ _ (w.heap.size + 1) _ rfl (five_box HZ.out _ _ _ _ _) rfl) rfl ⟨rfl, five HK.out (Nat.le_succ _) _ _ _ _ _⟩
set_option maxRecDepth 100000 in
set_option maxHeartbeats 4000000 in
theorem named_no (nm : ByteArray) (n : Int) (v r : ByteArray) (a : Nat) (vd : ByteArray) (s4 s5 s6 s7 s8 s9 s10 s11 s12 : Value) (nb : ByteArray) (k : Nat) (m : Int) (u x : ByteArray) (c : Bool) (g : (nm.toList == nb.toList) = false) (w : World) (hO : (∀ W, Kept (fun _ => False) w W → Calls Tryz.prog 79 #[.agg #[.string nm, .int .i64 n, .string v, .string r, .int .u8 (a : Int), .string vd, s4, s5, s6, s7, s8, s9, s10, s11, s12]] W fun e w' => e = .returned (.agg #[.string nm, .int .u8 2, .int .i64 n, .string v, .string r]) ∧ Kept (fun _ => False) W w')) (hM : (∀ W, Kept (fun _ => False) w W → Calls Tryz.prog 77 #[.agg #[.string nm, .int .u8 2, .int .i64 n, .string v, .string r], .agg #[.string nb, .int .u8 (k : Int), .int .i64 m, .string u, .string x]] W fun e w' => e = .returned (.bool c) ∧ Kept (fun _ => False) W w')) : Calls Tryz.prog 42 #[.agg #[.string nm, .int .i64 n, .string v, .string r, .int .u8 (a : Int), .string vd, s4, s5, s6, s7, s8, s9, s10, s11, s12], .agg #[.string nb, .int .u8 (k : Int), .int .i64 m, .string u, .string x]] w fun e w' => e = .returned (.bool false) ∧ Kept (fun _ => False) w w' := by
  have HA := Lib.hid (Box.after_alloc (Box.made w 28 #[.string nm, .int .i64 n, .string v, .string r, .int .u8 (a : Int), .string vd, s4, s5, s6, s7, s8, s9, s10, s11, s12]) (.cells #[.string nb, .int .u8 (k : Int), .int .i64 m, .string u, .string x] 37))
  have HB := Lib.hid (show Box ((w.alloc (.cells #[.string nm, .int .i64 n, .string v, .string r, .int .u8 (a : Int), .string vd, s4, s5, s6, s7, s8, s9, s10, s11, s12] 28)).alloc (.cells #[.string nb, .int .u8 (k : Int), .int .i64 m, .string u, .string x] 37)) (w.heap.size + 1) 37 #[.string nb, .int .u8 (k : Int), .int .i64 m, .string u, .string x] from by have h := Box.made (w.alloc (.cells #[.string nm, .int .i64 n, .string v, .string r, .int .u8 (a : Int), .string vd, s4, s5, s6, s7, s8, s9, s10, s11, s12] 28)) 37 #[.string nb, .int .u8 (k : Int), .int .i64 m, .string u, .string x]; simpa only [World.size_alloc] using h)
  have HK := Lib.hid (((Kept.refl (fun _ => False) w).alloc (.cells #[.string nm, .int .i64 n, .string v, .string r, .int .u8 (a : Int), .string vd, s4, s5, s6, s7, s8, s9, s10, s11, s12] 28)).alloc (.cells #[.string nb, .int .u8 (k : Int), .int .i64 m, .string u, .string x] 37))
  have ax0 := HA.out.cell 0
  have ax1 := HA.out.cell 1
  have ax2 := HA.out.cell 2
  have ax3 := HA.out.cell 3
  have ax4 := HA.out.cell 4
  have ax5 := HA.out.cell 5
  have ax6 := HA.out.cell 6
  have ax7 := HA.out.cell 7
  have ax8 := HA.out.cell 8
  have ax9 := HA.out.cell 9
  have ax10 := HA.out.cell 10
  have ax11 := HA.out.cell 11
  have ax12 := HA.out.cell 12
  have ax13 := HA.out.cell 13
  have ax14 := HA.out.cell 14
  have bx0 := HB.out.cell 0
  have bx1 := HB.out.cell 1
  have bx2 := HB.out.cell 2
  have bx3 := HB.out.cell 3
  have bx4 := HB.out.cell 4
  go_enter Tryz.func42, Tryz.ntmps42
  go_wp2_with fail
  obtain ⟨T, F, t0, ht0, hFk, hFs⟩ := class_of ((w.alloc (.cells #[.string nm, .int .i64 n, .string v, .string r, .int .u8 (a : Int), .string vd, s4, s5, s6, s7, s8, s9, s10, s11, s12] 28)).alloc (.cells #[.string nb, .int .u8 (k : Int), .int .i64 m, .string u, .string x] 37))
  have fK := fun t => Kept.trans HK.out (hFk t) (fun _ _ h => h)
  have fHA := fun t => (hFk t).box HA.out (fun h => h)
  have qax0 := fun t => (fHA t).cell 0
  have qax1 := fun t => (fHA t).cell 1
  have qax2 := fun t => (fHA t).cell 2
  have qax3 := fun t => (fHA t).cell 3
  have qax4 := fun t => (fHA t).cell 4
  have qax5 := fun t => (fHA t).cell 5
  have qax6 := fun t => (fHA t).cell 6
  have qax7 := fun t => (fHA t).cell 7
  have qax8 := fun t => (fHA t).cell 8
  have qax9 := fun t => (fHA t).cell 9
  have qax10 := fun t => (fHA t).cell 10
  have qax11 := fun t => (fHA t).cell 11
  have qax12 := fun t => (fHA t).cell 12
  have qax13 := fun t => (fHA t).cell 13
  have qax14 := fun t => (fHA t).cell 14
  have fHB := fun t => (hFk t).box HB.out (fun h => h)
  have qbx0 := fun t => (fHB t).cell 0
  have qbx1 := fun t => (fHB t).cell 1
  have qbx2 := fun t => (fHB t).cell 2
  have qbx3 := fun t => (fHB t).cell 3
  have qbx4 := fun t => (fHB t).cell 4
  have k0 := fun t => hO (F t) (fK t)
  have k1 := fun t => hM (F t) (fK t)
  have HFK := Lib.hid fK
  have HFS := Lib.hid hFs
  clear hFk hFs fK fHA fHB hO hM 
  have hne : Nonempty T := ⟨t0⟩
  refine wp_region_class F t0 ht0 (by kernel_rfl) (by kernel_rfl) ?_
  repeat (go_big_quiet_step (first
      | (go_at_call 79; with_reducible exact class_call HFS.out (k0 _))
      | (go_at_call 77; with_reducible exact class_call HFS.out (k1 _))
      ))
  refine wpQuiet_nil ?_
  rintro _ ⟨tz, rfl⟩
  have hkz := HFK.out tz
  go_wp2_with fail
  go_ret
  exact ⟨rfl, hkz⟩
set_option maxRecDepth 100000 in
set_option maxHeartbeats 4000000 in
theorem named_yes (nm : ByteArray) (n : Int) (v r : ByteArray) (a : Nat) (vd : ByteArray) (s4 s5 s6 s7 s8 s9 s10 s11 s12 : Value) (nb : ByteArray) (k : Nat) (m : Int) (u x : ByteArray) (c : Bool) (g : (nm.toList == nb.toList) = true) (w : World) (hO : (∀ W, Kept (fun _ => False) w W → Calls Tryz.prog 79 #[.agg #[.string nm, .int .i64 n, .string v, .string r, .int .u8 (a : Int), .string vd, s4, s5, s6, s7, s8, s9, s10, s11, s12]] W fun e w' => e = .returned (.agg #[.string nm, .int .u8 2, .int .i64 n, .string v, .string r]) ∧ Kept (fun _ => False) W w')) (hM : (∀ W, Kept (fun _ => False) w W → Calls Tryz.prog 77 #[.agg #[.string nm, .int .u8 2, .int .i64 n, .string v, .string r], .agg #[.string nb, .int .u8 (k : Int), .int .i64 m, .string u, .string x]] W fun e w' => e = .returned (.bool c) ∧ Kept (fun _ => False) W w')) : Calls Tryz.prog 42 #[.agg #[.string nm, .int .i64 n, .string v, .string r, .int .u8 (a : Int), .string vd, s4, s5, s6, s7, s8, s9, s10, s11, s12], .agg #[.string nb, .int .u8 (k : Int), .int .i64 m, .string u, .string x]] w fun e w' => e = .returned (.bool c) ∧ Kept (fun _ => False) w w' := by
  have HA := Lib.hid (Box.after_alloc (Box.made w 28 #[.string nm, .int .i64 n, .string v, .string r, .int .u8 (a : Int), .string vd, s4, s5, s6, s7, s8, s9, s10, s11, s12]) (.cells #[.string nb, .int .u8 (k : Int), .int .i64 m, .string u, .string x] 37))
  have HB := Lib.hid (show Box ((w.alloc (.cells #[.string nm, .int .i64 n, .string v, .string r, .int .u8 (a : Int), .string vd, s4, s5, s6, s7, s8, s9, s10, s11, s12] 28)).alloc (.cells #[.string nb, .int .u8 (k : Int), .int .i64 m, .string u, .string x] 37)) (w.heap.size + 1) 37 #[.string nb, .int .u8 (k : Int), .int .i64 m, .string u, .string x] from by have h := Box.made (w.alloc (.cells #[.string nm, .int .i64 n, .string v, .string r, .int .u8 (a : Int), .string vd, s4, s5, s6, s7, s8, s9, s10, s11, s12] 28)) 37 #[.string nb, .int .u8 (k : Int), .int .i64 m, .string u, .string x]; simpa only [World.size_alloc] using h)
  have HK := Lib.hid (((Kept.refl (fun _ => False) w).alloc (.cells #[.string nm, .int .i64 n, .string v, .string r, .int .u8 (a : Int), .string vd, s4, s5, s6, s7, s8, s9, s10, s11, s12] 28)).alloc (.cells #[.string nb, .int .u8 (k : Int), .int .i64 m, .string u, .string x] 37))
  have ax0 := HA.out.cell 0
  have ax1 := HA.out.cell 1
  have ax2 := HA.out.cell 2
  have ax3 := HA.out.cell 3
  have ax4 := HA.out.cell 4
  have ax5 := HA.out.cell 5
  have ax6 := HA.out.cell 6
  have ax7 := HA.out.cell 7
  have ax8 := HA.out.cell 8
  have ax9 := HA.out.cell 9
  have ax10 := HA.out.cell 10
  have ax11 := HA.out.cell 11
  have ax12 := HA.out.cell 12
  have ax13 := HA.out.cell 13
  have ax14 := HA.out.cell 14
  have bx0 := HB.out.cell 0
  have bx1 := HB.out.cell 1
  have bx2 := HB.out.cell 2
  have bx3 := HB.out.cell 3
  have bx4 := HB.out.cell 4
  go_enter Tryz.func42, Tryz.ntmps42
  go_wp2_with fail
  obtain ⟨T, F, t0, ht0, hFk, hFs⟩ := class_of ((w.alloc (.cells #[.string nm, .int .i64 n, .string v, .string r, .int .u8 (a : Int), .string vd, s4, s5, s6, s7, s8, s9, s10, s11, s12] 28)).alloc (.cells #[.string nb, .int .u8 (k : Int), .int .i64 m, .string u, .string x] 37))
  have fK := fun t => Kept.trans HK.out (hFk t) (fun _ _ h => h)
  have fHA := fun t => (hFk t).box HA.out (fun h => h)
  have qax0 := fun t => (fHA t).cell 0
  have qax1 := fun t => (fHA t).cell 1
  have qax2 := fun t => (fHA t).cell 2
  have qax3 := fun t => (fHA t).cell 3
  have qax4 := fun t => (fHA t).cell 4
  have qax5 := fun t => (fHA t).cell 5
  have qax6 := fun t => (fHA t).cell 6
  have qax7 := fun t => (fHA t).cell 7
  have qax8 := fun t => (fHA t).cell 8
  have qax9 := fun t => (fHA t).cell 9
  have qax10 := fun t => (fHA t).cell 10
  have qax11 := fun t => (fHA t).cell 11
  have qax12 := fun t => (fHA t).cell 12
  have qax13 := fun t => (fHA t).cell 13
  have qax14 := fun t => (fHA t).cell 14
  have fHB := fun t => (hFk t).box HB.out (fun h => h)
  have qbx0 := fun t => (fHB t).cell 0
  have qbx1 := fun t => (fHB t).cell 1
  have qbx2 := fun t => (fHB t).cell 2
  have qbx3 := fun t => (fHB t).cell 3
  have qbx4 := fun t => (fHB t).cell 4
  have k0 := fun t => hO (F t) (fK t)
  have k1 := fun t => hM (F t) (fK t)
  have HFK := Lib.hid fK
  have HFS := Lib.hid hFs
  clear hFk hFs fK fHA fHB hO hM 
  have hne : Nonempty T := ⟨t0⟩
  refine wp_region_class F t0 ht0 (by kernel_rfl) (by kernel_rfl) ?_
  repeat (go_big_quiet_step (first
      | (go_at_call 79; with_reducible exact class_call HFS.out (k0 _))
      | (go_at_call 77; with_reducible exact class_call HFS.out (k1 _))
      ))
  refine wpQuiet_nil ?_
  rintro _ ⟨tz, rfl⟩
  have hkz := HFK.out tz
  go_wp2_with fail
  go_ret
  exact ⟨rfl, hkz⟩
theorem named_walk (nm : ByteArray) (n : Int) (v r : ByteArray) (a : Nat) (vd : ByteArray) (s4 s5 s6 s7 s8 s9 s10 s11 s12 : Value) (d : De) (hn : nm.size ≤ 1000000) (hv : v.size ≤ 1000000) (hr : r.size ≤ 1000000) (hd : DeOk d) (w : World) : Calls Tryz.prog 42 #[.agg #[.string nm, .int .i64 n, .string v, .string r, .int .u8 (a : Int), .string vd, s4, s5, s6, s7, s8, s9, s10, s11, s12], deV d] w fun e w' => e = .returned (.bool (namedB nm n v r d)) ∧ Kept (fun _ => False) w w' := by
  have hO : (∀ W, Kept (fun _ => False) w W → Calls Tryz.prog 79 #[.agg #[.string nm, .int .i64 n, .string v, .string r, .int .u8 (a : Int), .string vd, s4, s5, s6, s7, s8, s9, s10, s11, s12]] W fun e w' => e = .returned (.agg #[.string nm, .int .u8 2, .int .i64 n, .string v, .string r]) ∧ Kept (fun _ => False) W w') := fun W _ => own10_walk nm n v r a vd s4 s5 s6 s7 s8 s9 s10 s11 s12 hn hv hr W
  have hM : (∀ W, Kept (fun _ => False) w W → Calls Tryz.prog 77 #[.agg #[.string nm, .int .u8 2, .int .i64 n, .string v, .string r], deV d] W fun e w' => e = .returned (.bool (namedB nm n v r d)) ∧ Kept (fun _ => False) W w') := fun W _ => meets_walk ⟨nm, 2, n, v, r⟩ d ⟨hn, by show 2 < 256; omega, hv, hr⟩ hd W
  by_cases h : nm = d.nm
  · exact named_yes nm n v r a vd s4 s5 s6 s7 s8 s9 s10 s11 s12 d.nm d.o d.n d.v d.r _ (by rw [h]; exact eqB_yes _) w hO hM
  · have e : namedB nm n v r d = false := by unfold namedB meetsB; simp [h]
    rw [e] at hM ⊢
    exact named_no nm n v r a vd s4 s5 s6 s7 s8 s9 s10 s11 s12 d.nm d.o d.n d.v d.r _ (eqB_no h) w hO hM
end Go.Proofs.YtlpalepkomkngaaGreatDoor
