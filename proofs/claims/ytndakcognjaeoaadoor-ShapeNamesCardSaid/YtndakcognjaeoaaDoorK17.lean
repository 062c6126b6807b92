/-
  strings.Clone: the same text; what was there lies as it lay. strings.Clone of any text; a plain dependency in new memory (layer 9). Slices of plain dependencies; what an append that is stored in a box leaves. Nothing of the program is named here but its types. A region that draws its order, in the body of a loop over an iterator, operation by operation: XInvReg's law there. Nothing of the program is named here. Conditions: as each theorem states.
-/
import Derived.Test.YtndakcognjaeoaaDoorK04
import Derived.Test.YtndakcognjaeoaaDoorRows
import Derived.Shelf.Strconv.Clone
import Derived.WalkKit
import Derived.Test.YtndakcognjaeoaaDoorK12
import Derived.Test.YtndakcognjaeoaaDoorK10
import Derived.Test.YtndakcognjaeoaaDoorK11
namespace Go.Proofs.YtndakcognjaeoaaDoor
open Go.RowKit Go.Shelf
def lays316_ren : Go.Shelf.Ren := ⟨fun | 316 => 87 | n => n, fun | 9 => 9 | 3 => 3 | 4 => 4 | 37 => 46 | 0 => 0 | 127 => 116 | 5 => 5 | n => n, fun | n => n⟩
theorem lays316 : Go.Proofs.LaysM.n316 Tryd.prog lays316_ren := {
  mixed := by kernel_rfl
  f316 := Tryd.func87.trans (congrArg some (by kernel_rfl))
  t0 := Tryd.underlying0
  a0 := Tryd.isAgg0
  z0 := Tryd.sizeOf0
  v0 := Tryd.zeroValue0
  t3 := Tryd.underlying3
  a3 := Tryd.isAgg3
  z3 := Tryd.sizeOf3
  v3 := Tryd.zeroValue3
  t4 := Tryd.underlying4
  a4 := Tryd.isAgg4
  z4 := Tryd.sizeOf4
  v4 := Tryd.zeroValue4
  t9 := Tryd.underlying9
  a9 := Tryd.isAgg9
  z9 := Tryd.sizeOf9
  v9 := Tryd.zeroValue9
  t37 := Tryd.underlying46
  a37 := Tryd.isAgg46
  z37 := Tryd.sizeOf46
  v37 := Tryd.zeroValue46
  t127 := Tryd.underlying116
  a127 := Tryd.isAgg116
  z127 := Tryd.sizeOf116
  v127 := Tryd.zeroValue116
  t5 := Tryd.underlying5
  a5 := Tryd.isAgg5
  z5 := Tryd.sizeOf5
  v5 := Tryd.zeroValue5
  i0 := by kernel_rfl
  i3 := by kernel_rfl
  i4 := by kernel_rfl
  i5 := by kernel_rfl
  i9 := by kernel_rfl
  i37 := by kernel_rfl
  i127 := by kernel_rfl }

theorem clone_walk (s : ByteArray) (w : World) (hs : s.size ≤ 1000000) :
    Calls Tryd.prog 70 #[.string s] w fun e w' => e = .returned (.string s) ∧ Kept (fun _ => False) w w' := by
  have hc : ∀ W, Calls Tryd.prog 87 #[.string s] W fun e w' => e = .returned (.string s) ∧ Kept (fun _ => False) W w' := fun W =>
    (Any.stringslite_Clone lays316 s W (by omega)).mono fun _ _ ⟨h1, h2⟩ => ⟨h1, Kept.of_below h2 (fun i hi hb => by omega)⟩
  go_enter Tryd.func70, Tryd.ntmps70
  go_wp2_with (go_at_call 87; refine (hc _).mono ?_; rintro e w' ⟨rfl, hk⟩)
  go_ret
  exact ⟨rfl, hk⟩
end Go.Proofs.YtndakcognjaeoaaDoor

namespace Go.Proofs.YtndakcognjaeoaaDoor
open Go.RowKit Ver Evr Span Dep Rich Go.Shelf

theorem clone_any9 (s : ByteArray) (w : World) (hs : s.size ≤ 140737488355328) :
    Calls Tryd.prog 70 #[.string s] w fun e w' => e = .returned (.string s) ∧ Kept (fun _ => False) w w' := by
  have hc : ∀ W, Calls Tryd.prog 87 #[.string s] W fun e w' => e = .returned (.string s) ∧ Kept (fun _ => False) W w' := fun W =>
    (Any.stringslite_Clone lays316 s W (by omega)).mono fun _ _ ⟨h1, h2⟩ => ⟨h1, Kept.of_below h2 (fun i hi hb => by omega)⟩
  go_enter Tryd.func70, Tryd.ntmps70
  go_wp2_with (go_at_call 87; refine (hc _).mono ?_; rintro e w' ⟨rfl, hk⟩)
  go_ret
  exact ⟨rfl, hk⟩
theorem SNlit_any (tbl : List KdN) (hl : ∀ (j : Nat) (k : KdN), tbl[j]? = some k → ∃ u, k = KdN.lit u) (j : Nat) {w w' : World} (v : Value) (h : SN tbl j w v) : SN tbl j w' v := by
  unfold SN at h ⊢
  cases hj : tbl[j]? with
  | none => trivial
  | some k =>
    rw [hj] at h
    obtain ⟨u, rfl⟩ := hl j k hj
    exact h
def tblC (g : Nat) (d : D) : List KdN := [.lit (.pointer (some ⟨g, 2, none⟩)), .lit (.pointer (some ⟨g, 3, none⟩)), .lit (.string ⟨d.evr.ver.toArray⟩), .lit (.string ⟨d.evr.ver.toArray⟩), .lit (.pointer (some ⟨g, 2, none⟩)), .lit (.pointer (some ⟨g, 4, none⟩)), .lit (.string ⟨d.evr.rel.toArray⟩), .lit (.string ⟨d.evr.rel.toArray⟩), .lit (.pointer (some ⟨g, 2, none⟩)), .lit (.pointer (some ⟨g, 3, none⟩)), .lit (undef), .lit (.pointer (some ⟨g, 2, none⟩)), .lit (.pointer (some ⟨g, 4, none⟩)), .lit (undef)]
theorem dep_result9 {fn : Func} {p : Tmp} (h : fn.results = #[.cell p 26]) (tmps : Array Value) (W : World) (g : Nat) (cs : Array Value) (hp : tmps.getD p undef = .pointer (some ⟨g, 0, none⟩)) (hB : Box W g 26 cs) (hs : cs.size = 5) :
    (results fn tmps).run Tryd.prog W = .ok (.agg cs) W :=
  results_cell_row h tmps W g 26 cs (0, 0) _ hp hB Tryd.underlying26 rfl (by rw [hs]; kernel_rfl)
theorem five9 {S : Nat → Prop} {a w : World} (h : Kept S a w) {g : Nat} (hg : a.heap.size ≤ g) (x0 x1 x2 x3 x4 : Value) : Kept S a (((((w.setCell ⟨g, 0, none⟩ x0).setCell ⟨g, 1, none⟩ x1).setCell ⟨g, 2, none⟩ x2).setCell ⟨g, 3, none⟩ x3).setCell ⟨g, 4, none⟩ x4) :=
  ((((h.setCell (p := ⟨g, 0, none⟩) (.inr hg) _).setCell (p := ⟨g, 1, none⟩) (.inr hg) _).setCell (p := ⟨g, 2, none⟩) (.inr hg) _).setCell (p := ⟨g, 3, none⟩) (.inr hg) _).setCell (p := ⟨g, 4, none⟩) (.inr hg) _
theorem five_box9 {w : World} {g : Nat} {t : TypeId} {a b c d e : Value} (h : Box w g t #[a, b, c, d, e]) (x0 x1 x2 x3 x4 : Value) : Box (((((w.setCell ⟨g, 0, none⟩ x0).setCell ⟨g, 1, none⟩ x1).setCell ⟨g, 2, none⟩ x2).setCell ⟨g, 3, none⟩ x3).setCell ⟨g, 4, none⟩ x4) g t #[x0, x1, x2, x3, x4] :=
  ((((h.stored 0 _).stored 1 _).stored 2 _).stored 3 _).stored 4 _
theorem tblC_lit (g : Nat) (d : D) : ∀ (j : Nat) (k : KdN), (tblC g d)[j]? = some k → ∃ u, k = KdN.lit u := by
  intro j k h
  have hm : k ∈ tblC g d := List.mem_of_getElem? h
  simp only [tblC, List.mem_cons, List.not_mem_nil, or_false] at hm
  rcases hm with rfl | rfl | rfl | rfl | rfl | rfl | rfl | rfl | rfl | rfl | rfl | rfl | rfl | rfl <;> exact ⟨_, rfl⟩
def smallD (d : D) : Prop := d.name.length ≤ 140737488355328 ∧ d.evr.ver.length ≤ 140737488355328 ∧ d.evr.rel.length ≤ 140737488355328
set_option maxRecDepth 100000 in
set_option maxHeartbeats 4000000 in
theorem copyDep9_walk (d : D) (hd : smallD d) (w : World) :
    Calls Tryd.prog 45 #[.agg (depA d)] w fun e w' => e = .returned (.agg (depA d)) ∧ Kept (fun _ => False) w w' := by
  have HD := Lib.hid hd
  have HA := Lib.hid (show Box ((w.alloc (.cells (depA d) 26)).alloc (.cells #[.string ⟨#[]⟩, .int .u8 0, .int .i64 0, .string ⟨#[]⟩, .string ⟨#[]⟩] 26)) w.heap.size 26 (depA d) from (Box.made w _ _).after_alloc _)
  have HZ := Lib.hid (show Box ((w.alloc (.cells (depA d) 26)).alloc (.cells #[.string ⟨#[]⟩, .int .u8 0, .int .i64 0, .string ⟨#[]⟩, .string ⟨#[]⟩] 26)) (w.heap.size + 1) 26 #[.string ⟨#[]⟩, .int .u8 0, .int .i64 0, .string ⟨#[]⟩, .string ⟨#[]⟩] from by have h := Box.made (w.alloc (.cells (depA d) 26)) 26 #[.string ⟨#[]⟩, .int .u8 0, .int .i64 0, .string ⟨#[]⟩, .string ⟨#[]⟩]; simpa only [World.size_alloc] using h)
  have HK := Lib.hid (((Kept.refl (fun _ => False) w).alloc (.cells (depA d) 26)).alloc (.cells #[.string ⟨#[]⟩, .int .u8 0, .int .i64 0, .string ⟨#[]⟩, .string ⟨#[]⟩] 26))
  have a0 := HA.out.cell 0
  have f0 := HA.out.free 0
  clear hd
  go_enter Tryd.func45, Tryd.ntmps45
  go_wp2_with fail
  refine (clone_any9 ⟨d.name.toArray⟩ _ HD.out.1).mono ?_
  rintro e w1 ⟨rfl, hk1⟩
  have HA := Lib.hid (hk1.box HA.out (fun h => h))
  have HZ := Lib.hid (hk1.box HZ.out (fun h => h))
  have HK := Lib.hid (HK.out.trans hk1 (fun _ _ h => h))
  clear hk1 a0 f0
  have f0 := HA.out.free 0
  have a0 := HA.out.cell 0
  go_wp2_with fail
  have HA2 := Lib.hid (show Box (w1.setCell ⟨w.heap.size, 0, none⟩ (.string ⟨d.name.toArray⟩)) w.heap.size 26 (depA d) from HA.out.stored 0 _)
  have HZ2 := Lib.hid ((Kept.setCell (Kept.refl (fun b => b = w.heap.size) w1) (p := ⟨w.heap.size, 0, none⟩) (.inl rfl) (.string ⟨d.name.toArray⟩)).box HZ.out (by omega))
  have HK2 := Lib.hid (HK.out.setCell (p := ⟨w.heap.size, 0, none⟩) (.inr (Nat.le_refl _)) (.string ⟨d.name.toArray⟩))
  generalize w1.setCell ⟨w.heap.size, 0, none⟩ (.string ⟨d.name.toArray⟩) = w2 at *
  have hg : w.heap.size ≤ w.heap.size := Nat.le_refl _
  obtain ⟨g, hgg⟩ : ∃ g, g = w.heap.size := ⟨_, rfl⟩
  rw [← hgg] at HA2 HZ2 ⊢
  have HG := Lib.hid hgg
  clear HA HZ HK a0 f0 hg hgg
  refine wp_region_inv (SN (tblC g d)) (fun w1 w2 => Kept (fun b => b = g) w1 w2) (fun _ w' => Box w' g 26 (depA d) ∧ Kept (fun b => b = g) w2 w') (by kernel_rfl) (by kernel_rfl) ⟨HA2.out, (Kept.refl _ w2).drew⟩ (fun j _ _ v _ hs => SNlit_any (tblC g d) (tblC_lit g d) j v hs) ⟨OpOK.plain rfl ?_, OpOK.plain rfl ?_, OpOK.plain rfl ?_, OpOK.plain rfl ?_, OpOK.plain rfl ?_, OpOK.plain rfl ?_, OpOK.plain rfl ?_, OpOK.plain rfl ?_, OpOK.plain rfl ?_, OpOK.plain rfl ?_, OpOK.plain rfl ?_, OpOK.plain rfl ?_, OpOK.plain rfl ?_, OpOK.plain rfl ?_, trivial⟩ ?_
  · intro ls a wz hC hz hnew hwait hs hd K hK
    obtain ⟨hBx, hKx⟩ := hC
    have t1 := hs 1 _ (by kernel_rfl) rfl
    have t1' := t1
    rw [Array.getD_eq_getD_getElem?] at t1'
    clear hs hd
    go_simp
    exact hK _ _ (Kept.refl (fun b => b = g) wz) ⟨hBx, hKx⟩ (fun _ => SN.mkLit rfl)
  · intro ls a wz hC hz hnew hwait hs hd K hK
    obtain ⟨hBx, hKx⟩ := hC
    have d0 : a.tmps.getD 7 undef = .pointer (some ⟨g, 2, none⟩) := by
      obtain ⟨u, hu, hv⟩ := hd 0 7 (by kernel_rfl) (by kernel_rfl)
      rw [hu]; exact SN.lit (tbl := tblC g d) rfl hv
    have d0' : a.tmps[7]?.getD undef = .pointer (some ⟨g, 2, none⟩) := by rw [← Array.getD_eq_getD_getElem?]; exact d0
    clear hs hd
    go_simp
    exact hK _ _ (Kept.refl (fun b => b = g) wz) ⟨hBx, hKx⟩ (fun _ => SN.mkLit rfl)
  · intro ls a wz hC hz hnew hwait hs hd K hK
    obtain ⟨hBx, hKx⟩ := hC
    have d1 : a.tmps.getD 8 undef = .pointer (some ⟨g, 3, none⟩) := by
      obtain ⟨u, hu, hv⟩ := hd 1 8 (by kernel_rfl) (by kernel_rfl)
      rw [hu]; exact SN.lit (tbl := tblC g d) rfl hv
    have d1' : a.tmps[8]?.getD undef = .pointer (some ⟨g, 3, none⟩) := by rw [← Array.getD_eq_getD_getElem?]; exact d1
    clear hs hd
    have c0 := hBx.cell 3
    go_simp
    exact hK _ _ (Kept.refl (fun b => b = g) wz) ⟨hBx, hKx⟩ (fun _ => SN.mkLit rfl)
  · intro ls a wz hC hz hnew hwait hs hd K hK
    obtain ⟨hBx, hKx⟩ := hC
    have d2 : a.tmps.getD 9 undef = .string ⟨d.evr.ver.toArray⟩ := by
      obtain ⟨u, hu, hv⟩ := hd 2 9 (by kernel_rfl) (by kernel_rfl)
      rw [hu]; exact SN.lit (tbl := tblC g d) rfl hv
    have d2' : a.tmps[9]?.getD undef = .string ⟨d.evr.ver.toArray⟩ := by rw [← Array.getD_eq_getD_getElem?]; exact d2
    clear hs hd
    go_simp
    refine (clone_any9 ⟨d.evr.ver.toArray⟩ wz HD.out.2.1).mono ?_
    rintro e wv ⟨rfl, hkv⟩
    exact hK _ _ (hkv.weaker (fun _ _ h => h.elim)) ⟨hkv.box hBx (fun h => h), hKx.trans hkv (fun _ _ h => h.elim)⟩ (fun _ => SN.mkLit rfl)
  · intro ls a wz hC hz hnew hwait hs hd K hK
    obtain ⟨hBx, hKx⟩ := hC
    have t1 := hs 1 _ (by kernel_rfl) rfl
    have t1' := t1
    rw [Array.getD_eq_getD_getElem?] at t1'
    clear hs hd
    go_simp
    exact hK _ _ (Kept.refl (fun b => b = g) wz) ⟨hBx, hKx⟩ (fun _ => SN.mkLit rfl)
  · intro ls a wz hC hz hnew hwait hs hd K hK
    obtain ⟨hBx, hKx⟩ := hC
    have d4 : a.tmps.getD 11 undef = .pointer (some ⟨g, 2, none⟩) := by
      obtain ⟨u, hu, hv⟩ := hd 4 11 (by kernel_rfl) (by kernel_rfl)
      rw [hu]; exact SN.lit (tbl := tblC g d) rfl hv
    have d4' : a.tmps[11]?.getD undef = .pointer (some ⟨g, 2, none⟩) := by rw [← Array.getD_eq_getD_getElem?]; exact d4
    clear hs hd
    go_simp
    exact hK _ _ (Kept.refl (fun b => b = g) wz) ⟨hBx, hKx⟩ (fun _ => SN.mkLit rfl)
  · intro ls a wz hC hz hnew hwait hs hd K hK
    obtain ⟨hBx, hKx⟩ := hC
    have d5 : a.tmps.getD 12 undef = .pointer (some ⟨g, 4, none⟩) := by
      obtain ⟨u, hu, hv⟩ := hd 5 12 (by kernel_rfl) (by kernel_rfl)
      rw [hu]; exact SN.lit (tbl := tblC g d) rfl hv
    have d5' : a.tmps[12]?.getD undef = .pointer (some ⟨g, 4, none⟩) := by rw [← Array.getD_eq_getD_getElem?]; exact d5
    clear hs hd
    have c0 := hBx.cell 4
    go_simp
    exact hK _ _ (Kept.refl (fun b => b = g) wz) ⟨hBx, hKx⟩ (fun _ => SN.mkLit rfl)
  · intro ls a wz hC hz hnew hwait hs hd K hK
    obtain ⟨hBx, hKx⟩ := hC
    have d6 : a.tmps.getD 13 undef = .string ⟨d.evr.rel.toArray⟩ := by
      obtain ⟨u, hu, hv⟩ := hd 6 13 (by kernel_rfl) (by kernel_rfl)
      rw [hu]; exact SN.lit (tbl := tblC g d) rfl hv
    have d6' : a.tmps[13]?.getD undef = .string ⟨d.evr.rel.toArray⟩ := by rw [← Array.getD_eq_getD_getElem?]; exact d6
    clear hs hd
    go_simp
    refine (clone_any9 ⟨d.evr.rel.toArray⟩ wz HD.out.2.2).mono ?_
    rintro e wv ⟨rfl, hkv⟩
    exact hK _ _ (hkv.weaker (fun _ _ h => h.elim)) ⟨hkv.box hBx (fun h => h), hKx.trans hkv (fun _ _ h => h.elim)⟩ (fun _ => SN.mkLit rfl)
  · intro ls a wz hC hz hnew hwait hs hd K hK
    obtain ⟨hBx, hKx⟩ := hC
    have t1 := hs 1 _ (by kernel_rfl) rfl
    have t1' := t1
    rw [Array.getD_eq_getD_getElem?] at t1'
    clear hs hd
    go_simp
    exact hK _ _ (Kept.refl (fun b => b = g) wz) ⟨hBx, hKx⟩ (fun _ => SN.mkLit rfl)
  · intro ls a wz hC hz hnew hwait hs hd K hK
    obtain ⟨hBx, hKx⟩ := hC
    have d8 : a.tmps.getD 15 undef = .pointer (some ⟨g, 2, none⟩) := by
      obtain ⟨u, hu, hv⟩ := hd 8 15 (by kernel_rfl) (by kernel_rfl)
      rw [hu]; exact SN.lit (tbl := tblC g d) rfl hv
    have d8' : a.tmps[15]?.getD undef = .pointer (some ⟨g, 2, none⟩) := by rw [← Array.getD_eq_getD_getElem?]; exact d8
    clear hs hd
    go_simp
    exact hK _ _ (Kept.refl (fun b => b = g) wz) ⟨hBx, hKx⟩ (fun _ => SN.mkLit rfl)
  · intro ls a wz hC hz hnew hwait hs hd K hK
    obtain ⟨hBx, hKx⟩ := hC
    have d9 : a.tmps.getD 16 undef = .pointer (some ⟨g, 3, none⟩) := by
      obtain ⟨u, hu, hv⟩ := hd 9 16 (by kernel_rfl) (by kernel_rfl)
      rw [hu]; exact SN.lit (tbl := tblC g d) rfl hv
    have d9' : a.tmps[16]?.getD undef = .pointer (some ⟨g, 3, none⟩) := by rw [← Array.getD_eq_getD_getElem?]; exact d9
    have d3 : a.tmps.getD 10 undef = .string ⟨d.evr.ver.toArray⟩ := by
      obtain ⟨u, hu, hv⟩ := hd 3 10 (by kernel_rfl) (by kernel_rfl)
      rw [hu]; exact SN.lit (tbl := tblC g d) rfl hv
    have d3' : a.tmps[10]?.getD undef = .string ⟨d.evr.ver.toArray⟩ := by rw [← Array.getD_eq_getD_getElem?]; exact d3
    clear hs hd
    have c0 := hBx.cell 3
    have f0 := hBx.free 3
    go_simp
    exact hK undef _ ((Kept.refl (fun b => b = g) wz).setCell (p := ⟨g, 3, none⟩) (.inl rfl) _) ⟨hBx.stored 3 _, hKx.setCell (p := ⟨g, 3, none⟩) (.inl rfl) _⟩ (fun h => by cases h)
  · intro ls a wz hC hz hnew hwait hs hd K hK
    obtain ⟨hBx, hKx⟩ := hC
    have t1 := hs 1 _ (by kernel_rfl) rfl
    have t1' := t1
    rw [Array.getD_eq_getD_getElem?] at t1'
    clear hs hd
    go_simp
    exact hK _ _ (Kept.refl (fun b => b = g) wz) ⟨hBx, hKx⟩ (fun _ => SN.mkLit rfl)
  · intro ls a wz hC hz hnew hwait hs hd K hK
    obtain ⟨hBx, hKx⟩ := hC
    have d11 : a.tmps.getD 17 undef = .pointer (some ⟨g, 2, none⟩) := by
      obtain ⟨u, hu, hv⟩ := hd 11 17 (by kernel_rfl) (by kernel_rfl)
      rw [hu]; exact SN.lit (tbl := tblC g d) rfl hv
    have d11' : a.tmps[17]?.getD undef = .pointer (some ⟨g, 2, none⟩) := by rw [← Array.getD_eq_getD_getElem?]; exact d11
    clear hs hd
    go_simp
    exact hK _ _ (Kept.refl (fun b => b = g) wz) ⟨hBx, hKx⟩ (fun _ => SN.mkLit rfl)
  · intro ls a wz hC hz hnew hwait hs hd K hK
    obtain ⟨hBx, hKx⟩ := hC
    have d12 : a.tmps.getD 18 undef = .pointer (some ⟨g, 4, none⟩) := by
      obtain ⟨u, hu, hv⟩ := hd 12 18 (by kernel_rfl) (by kernel_rfl)
      rw [hu]; exact SN.lit (tbl := tblC g d) rfl hv
    have d12' : a.tmps[18]?.getD undef = .pointer (some ⟨g, 4, none⟩) := by rw [← Array.getD_eq_getD_getElem?]; exact d12
    have d7 : a.tmps.getD 14 undef = .string ⟨d.evr.rel.toArray⟩ := by
      obtain ⟨u, hu, hv⟩ := hd 7 14 (by kernel_rfl) (by kernel_rfl)
      rw [hu]; exact SN.lit (tbl := tblC g d) rfl hv
    have d7' : a.tmps[14]?.getD undef = .string ⟨d.evr.rel.toArray⟩ := by rw [← Array.getD_eq_getD_getElem?]; exact d7
    clear hs hd
    have c0 := hBx.cell 4
    have f0 := hBx.free 4
    go_simp
    exact hK undef _ ((Kept.refl (fun b => b = g) wz).setCell (p := ⟨g, 4, none⟩) (.inl rfl) _) ⟨hBx.stored 4 _, hKx.setCell (p := ⟨g, 4, none⟩) (.inl rfl) _⟩ (fun h => by cases h)
  intro ls wz hall hC
  intro v0 h0
  intro v1 h1
  intro v2 h2
  intro v3 h3
  intro v4 h4
  intro v5 h5
  intro v6 h6
  intro v7 h7
  intro v8 h8
  intro v9 h9
  intro v11 h11
  intro v12 h12
  obtain ⟨hBx, hKx⟩ := hC
  clear hall h0 h1 h2 h3 h4 h5 h6 h7 h8 h9 h11 h12
  simp only [EndsP]
  go_simp
  have hZx := hKx.box HZ2.out (by omega)
  have c0 := hBx.cell 0
  have q0 := hZx.free 0
  have z0 := hZx.cell 0
  have c1 := hBx.cell 1
  have q1 := hZx.free 1
  have z1 := hZx.cell 1
  have c2 := hBx.cell 2
  have q2 := hZx.free 2
  have z2 := hZx.cell 2
  have c3 := hBx.cell 3
  have q3 := hZx.free 3
  have z3 := hZx.cell 3
  have c4 := hBx.cell 4
  have q4 := hZx.free 4
  have z4 := hZx.cell 4
  have HKX := Lib.hid (HK2.out.trans (hKx.weaker (T := fun b => b = w.heap.size) (fun _ _ h => h.trans HG.out)) (fun i hi h => by omega))
  have KX := five9 HKX.out (g := g + 1) (by have := HG.out; omega) (.string ⟨d.name.toArray⟩) (.int .u8 (d.op : Int)) (.int .i64 d.evr.epoch) (.string ⟨d.evr.ver.toArray⟩) (.string ⟨d.evr.rel.toArray⟩)
  have BX := five_box9 hZx (.string ⟨d.name.toArray⟩) (.int .u8 (d.op : Int)) (.int .i64 d.evr.epoch) (.string ⟨d.evr.ver.toArray⟩) (.string ⟨d.evr.rel.toArray⟩)
  go_wp2_with fail
  exact bodyPost_ret (dep_result9 rfl _ _ (g + 1) _ rfl BX rfl) rfl ⟨rfl, KX⟩
end Go.Proofs.YtndakcognjaeoaaDoor

namespace Go.Proofs.YtndakcognjaeoaaDoor
open Go.RowKit Ver Evr Span Dep Rich

def cellsD9 (l : List D) : List Value := l.flatMap fun d => (depA d).toList
theorem cellsD9_app (a b : List D) : cellsD9 (a ++ b) = cellsD9 a ++ cellsD9 b := List.flatMap_append
theorem cellsD9_len (l : List D) : (cellsD9 l).length = l.length * 5 := by
  induction l with
  | nil => rfl
  | cons d l ih => rw [show cellsD9 (d :: l) = (depA d).toList ++ cellsD9 l from rfl, List.length_append, ih]; show 5 + l.length * 5 = (l.length + 1) * 5; omega
theorem cellsD9_one (l : List D) : ∀ u ∈ cellsD9 l, u.oneCell' = true := by
  intro u hu
  obtain ⟨d, _, hu⟩ := List.mem_flatMap.1 hu
  simp only [List.mem_cons, List.not_mem_nil, or_false] at hu
  rcases hu with rfl | rfl | rfl | rfl | rfl <;> rfl
theorem cellsD9_at : ∀ (l : List D) (i : Nat) (d : D), l[i]? = some d → ∀ (j : Nat) (u : Value), (depA d).toList[j]? = some u → (cellsD9 l)[i * 5 + j]? = some u
  | [], i, d, h, _, _, _ => by simp at h
  | x :: l, 0, d, h, j, u, hj => by
    have : x = d := by simpa using h
    subst this
    show ((depA x).toList ++ cellsD9 l)[0 * 5 + j]? = some u
    rw [Nat.zero_mul, Nat.zero_add, List.getElem?_append_left (List.getElem?_eq_some_iff.1 hj).1, hj]
  | x :: l, i + 1, d, h, j, u, hj => by
    have ih := cellsD9_at l i d (by simpa using h) j u hj
    show ((depA x).toList ++ cellsD9 l)[(i + 1) * 5 + j]? = some u
    rw [List.getElem?_append_right (by show 5 ≤ _; omega), ← ih]
    show (cellsD9 l)[(i + 1) * 5 + j - 5]? = _
    rw [show (i + 1) * 5 + j - 5 = i * 5 + j by omega]
/-- A slice that reads as these. -/
def DepsS (w : World) (v : Value) (l : List D) : Prop := ∃ ao cp, v = .slice ao l.length cp ∧ (ao = none → l.length = 0 ∧ cp = 0) ∧ ∀ (j : Nat) (u : Value), (cellsD9 l)[j]? = some u → ∃ b off, ao = some ⟨b, off, none⟩ ∧ b < w.heap.size ∧ w.cell? ⟨b, off + j, none⟩ = some u
theorem DepsS.kept {w w' : World} {v : Value} {l : List D} (h : DepsS w v l) (hk : Kept (fun _ => False) w w') : DepsS w' v l := by
  obtain ⟨ao, cp, h1, h2, h3⟩ := h
  refine ⟨ao, cp, h1, h2, fun j u hj => ?_⟩
  obtain ⟨b, off, e1, e2, e3⟩ := h3 j u hj
  exact ⟨b, off, e1, Nat.lt_of_lt_of_le e2 hk.size, (hk.cell (p := ⟨b, off + j, none⟩) e2 (fun h => h)).trans e3⟩
theorem own_deps9 {w : World} {base : Nat} {e : TypeId} {v : Value} {l : List D} (h : w.ownsRow base e 5 v l.length (cellsD9 l)) : DepsS w v l := by
  obtain ⟨a, cp, rfl⟩ := own_form h
  refine ⟨a, cp, rfl, fun hn => ?_, fun j u hj => ?_⟩
  · subst hn
    rcases h.2 with ⟨h1, h2⟩ | ⟨g, cap, cur, e1, _⟩
    · injection h1 with _ _ h1; exact ⟨h2, h1⟩
    · cases e1
  · have hlt : j < (cellsD9 l).length := (List.getElem?_eq_some_iff.1 hj).1
    rw [cellsD9_len] at hlt
    rcases h.2 with ⟨_, h0⟩ | ⟨g, cap, cur, e1, _⟩
    · omega
    · injection e1 with e1 e2 e3
      subst e1
      have := own_cell h hj
      exact ⟨g, 0, rfl, this.2, by rw [Nat.zero_add]; exact this.1⟩
theorem DepsS.at {w : World} {ao : Option Addr} {n cp : Nat} {l : List D} (h : DepsS w (.slice ao n cp) l) {i : Nat} {d : D} (hi : l[i]? = some d) :
    n = l.length ∧ ∃ b off, ao = some ⟨b, off, none⟩ ∧ b < w.heap.size ∧ w.cell? ⟨b, off + i * 5, none⟩ = some (.string ⟨d.name.toArray⟩) ∧ w.cell? ⟨b, off + i * 5 + 1, none⟩ = some (.int .u8 (d.op : Int)) ∧ w.cell? ⟨b, off + i * 5 + 2, none⟩ = some (.int .i64 d.evr.epoch) ∧ w.cell? ⟨b, off + i * 5 + 3, none⟩ = some (.string ⟨d.evr.ver.toArray⟩) ∧ w.cell? ⟨b, off + i * 5 + 4, none⟩ = some (.string ⟨d.evr.rel.toArray⟩) := by
  obtain ⟨ao', cp', h1, _, h2⟩ := h
  injection h1 with e1 e2 e3
  subst e1
  obtain ⟨b, off, h3, h4, _⟩ := h2 (i * 5) _ (cellsD9_at l i d hi 0 _ rfl)
  have key : ∀ (j : Nat) (u : Value), (depA d).toList[j]? = some u → w.cell? ⟨b, off + i * 5 + j, none⟩ = some u := fun j u hj => by
    obtain ⟨b', off', g1, g2, g3⟩ := h2 (i * 5 + j) u (cellsD9_at l i d hi j u hj)
    rw [h3] at g1
    injection g1 with g1
    injection g1 with g1 g4
    subst g1; subst g4
    rw [Nat.add_assoc]
    exact g3
  exact ⟨e2, b, off, h3, h4, key 0 _ rfl, key 1 _ rfl, key 2 _ rfl, key 3 _ rfl, key 4 _ rfl⟩
theorem info_dep9 : (Tryd.prog.info? 26).map (fun i => (i.zero, i.size, i.bytes)) = some (some (.agg #[.string ⟨#[]⟩, .int .u8 0, .int .i64 0, .string ⟨#[]⟩, .string ⟨#[]⟩]), 5, 64) := by kernel_rfl
theorem info_get9 {P : Program} {e : TypeId} {z : Value} {s b : Nat} (h : (P.info? e).map (fun i => (i.zero, i.size, i.bytes)) = some (some z, s, b)) : ∃ i, P.info? e = some i ∧ i.zero = some z ∧ i.size = s ∧ i.bytes = b := by
  cases hi : P.info? e with
  | none => rw [hi] at h; cases h
  | some i =>
    rw [hi] at h
    simp only [Option.map_some, Option.some.injEq, Prod.mk.injEq] at h
    exact ⟨i, rfl, h.1, h.2.1, h.2.2⟩
/-- What an append onto the box's slice, and its store, leave. -/
theorem app_fin {W w w5 w6 : World} {base B n m size : Nat} {t e : TypeId} {V0 v' : Value} {xs ys : List Value} (hte : t ≠ e) (hv : Boxed W B t V0) (hrow : W.ownsRow base e size V0 n xs) (hB : base ≤ B)
    (hk : Kept (fun _ => False) W w) (hg : w.grownBy w5 V0.ownBlock) (hwh : v'.ownBlock = V0.ownBlock ∨ v'.ownBlock = some w.heap.size) (hown : w5.ownsRow base e size v' m ys) (hk6 : Kept (fun b => b = B) w5 w6) (hv6 : Boxed w6 B t V0) :
    Boxed (w6.setCell ⟨B, 0, none⟩ v') B t v' ∧ (w6.setCell ⟨B, 0, none⟩ v').ownsRow base e size v' m ys ∧ KeepsOthers W (w6.setCell ⟨B, 0, none⟩ v') ∧ KpM (OwnB B) W (w6.setCell ⟨B, 0, none⟩ v') ∧ Kept (fun i => base ≤ i) W (w6.setCell ⟨B, 0, none⟩ v') := by
  have s1 := hk.size
  have s2 := hg.size
  have s3 := hk6.size
  have hss : (w6.setCell ⟨B, 0, none⟩ v').heap.size = w6.heap.size := by simp [World.setCell]
  have hset := hv6.set v'
  have hne : ∀ j, v'.ownBlock = some j → j ≠ B := fun j hj hjB => by
    subst hjB
    have h1 := hown.lt j hj
    rcases hown.2 with ⟨h2, _⟩ | ⟨g, cap, cur, h2, _, h3, _⟩
    · subst h2; simp [Value.ownBlock] at hj
    · subst h2
      have : g = j := by simpa [Value.ownBlock] using hj
      subst this
      have h5 : w5.heap[g]? = some (.cells #[V0] t (0, 0)) := by
        have hvw : Boxed w g t V0 := (hk.block g hv.lt (fun h => h)).trans hv
        rcases hwh with hw | hw
        · exact absurd (hw.symm.trans hj) (fun h => (hv.not_row hte hrow) h.symm)
        · rw [hw] at hj
          injection hj with hj
          have := hv.lt
          omega
      rw [h5] at h3
      injection h3 with h3
      injection h3 with _ h3
      exact hte h3
  have chain : ∀ i, i < W.heap.size → i ≠ B → V0.ownBlock ≠ some i → (w6.setCell ⟨B, 0, none⟩ v').heap[i]? = W.heap[i]? := fun i hi h1 h2 =>
    (Below.heap_setCell w6 _ _ i h1).trans ((hk6.block i (by omega) h1).trans ((hg.block i (by omega) (fun e => h2 e.symm)).trans (hk.block i hi (fun h => h))))
  refine ⟨hset, ?_, ⟨by omega, fun i o hi hc => ?_⟩, ⟨by omega, fun i o hi ho hm => ?_, fun i hi => ?_⟩, ⟨?_, ?_, ?_, by omega, fun i hi hs => ?_⟩⟩
  · exact (Kept.setCell (S := fun b => b = B) (Kept.refl _ w6) (p := ⟨B, 0, none⟩) (.inl rfl) v').owns (hk6.owns hown (fun j hj h => hne j hj h)) (fun j hj h => hne j hj h)
  · refine (chain i (Array.getElem?_eq_some_iff.1 hi).1 (fun e => ?_) (fun e => ?_)).trans hi
    · subst e; rw [show W.heap[i]? = _ from hv] at hi; cases hi; cases hc
    · rcases hrow.2 with ⟨h2, _⟩ | ⟨g, cap, cur, h2, _, h3, _⟩
      · subst h2; simp [Value.ownBlock] at e
      · subst h2
        have : g = i := by simpa [Value.ownBlock] using e
        subst this
        rw [h3] at hi; cases hi; cases hc
  · exact (chain i (Array.getElem?_eq_some_iff.1 hi).1 (fun e => hm (.inl e)) (fun e => hm (.inr ⟨V0, hv.cell, e⟩))).trans hi
  · rcases hi with hi | ⟨u, h1, h2⟩
    · exact .inl (.inl hi)
    · rw [hset.cell] at h1
      cases h1
      rcases hwh with hb | hb
      · exact .inl (.inr ⟨V0, hv.cell, by rw [← hb]; exact h2⟩)
      · right
        have h3 := (hown.lt i h2).2
        rw [hb] at h2
        cases h2
        omega
  · exact (hk6.os.trans hg.os).trans hk.os
  · exact (hk6.tape.trans hg.tape).trans hk.tape
  · exact (hk6.output.trans hg.output).trans hk.output
  · exact chain i hi (fun e => hs (by rw [e]; exact hB)) (fun e => hs (hrow.lt i e).1)
end Go.Proofs.YtndakcognjaeoaaDoor

namespace Go.Proofs.YtndakcognjaeoaaDoor
open Go.RowKit

theorem wpIn_of_wp {n : Nat} {P : Program} {o : Oper} {a : Act} {w : World} {K : Act → World → Prop} {Q : Exit → Act → World → Prop} (h : o.wp P a w K Q) : o.wpIn Fence.wide n P a w K Q := by
  unfold Oper.wpIn
  refine ⟨fun _ _ => trivial, ?_⟩
  unfold Oper.wp at h
  rw [show Fence.wide.round = none from rfl, Oper.semAt_none]
  generalize (execOp a.eval o).run P w = r at *
  cases r with
  | ok x w' =>
    cases x with
    | enter f args => exact ⟨fun h => absurd h (by decide), callsIn_wide.2 h⟩
    | row row args => exact ⟨fun h => absurd h (by decide), fun c cs _ => let ⟨v, w', r, s⟩ := h c cs; ⟨v, w', r, stepsIn_wide.2 s⟩⟩
    | round => exact h.elim
    | _ => exact h
  | halt x w' => cases x <;> exact h
section
variable {n : Nat} {P : Program} {ops : Array Oper} {md : Region.Mode} {Q : Exit → Act → World → Prop}
theorem wpOpIn_step9 {i : Nat} {o : Oper} {K : Act → World → Prop} {a : Act} {w : World} (ho : ops[i]? = some o)
    (h : ∀ K' : Act → World → Prop, (∀ a w, K a w → K' a w) → if Region.wanted o (yielded ops a.tmps) = true then Oper.wp P o a w K' Q else K' (a.put o.dst undef) w) : wpOpIn Fence.wide n P ops Q i K a w := by
  have := h K (fun _ _ h => h)
  unfold wpOpIn
  rw [ho]
  show if Region.wanted o (yielded ops a.tmps) = true then _ else _
  split
  · rename_i hw; rw [if_pos hw] at this; exact wpIn_of_wp this
  · rename_i hw; rw [if_neg hw] at this; exact ⟨fun _ _ => trivial, this⟩
theorem wpAnyIn_inv9 (I : Array Bool → Act → World → Prop)
    (hstep : ∀ listed a w i, listed.size = ops.size → i ∈ Region.ready md ops listed → I listed a w → wpOpIn Fence.wide n P ops Q i (fun a' w' => I (listed.setIfInBounds i true) a' w') a w)
    (hend : ∀ listed a w, listed.size = ops.size → Region.ready md ops listed = [] → I listed a w → Q .normal a w) :
    ∀ (fuel : Nat) (listed : Array Bool) (a : Act) (w : World), listed.size = ops.size → listed.toList.count false ≤ fuel → I listed a w → wpAnyIn Fence.wide n P md ops Q fuel listed a w := by
  intro fuel
  induction fuel with
  | zero =>
    intro listed a w hs hc h
    have hr : Region.ready md ops listed = [] := by
      apply List.eq_nil_iff_forall_not_mem.2
      intro i hi
      have := List.count_pos_iff.2 (List.mem_of_getElem? (ready_slot hs hi))
      omega
    exact ⟨hr, hend listed a w hs hr h⟩
  | succ fuel ih =>
    intro listed a w hs hc h
    refine ⟨fun hr => hend listed a w hs hr h, fun i hi => wpOpIn_mono (fun a' w' h' => ih _ a' w' (by simpa using hs) ?_ h') (hstep listed a w i hs hi h)⟩
    have := count_set_true _ i (ready_slot hs hi)
    rw [Array.toList_setIfInBounds]
    omega

end
/-- **One goal for each operation**: of what values it makes, for whatever values of their kinds the others have made; and one for what stands behind. -/
theorem wp_region_inv_round {n lr : Nat} {P : Program} {Q : Exit → Act → World → Prop} {id : Nat} {l : List Oper} {a0 : Act} {w0 : World} (S : Nat → World → Value → Prop) (R : World → World → Prop) (C : Array Bool → World → Prop) (hm : P.follows .mixedOrders = true) (hd : plainB l.toArray = true) (hB : invB a0.tmps.size 0 l = true)
    (hC : C (Array.replicate l.toArray.size false) w0.drew) (hst : ∀ j w w' v, R w w' → S j w v → S j w' v) (hops : OpsOK P Q S R C l a0 0 l)
    (hend : ∀ listed w, (∀ i, i < l.length → listed.getD i false = true) → C listed w → EndsP Q S w 0 l a0) : (Code.region id l.toArray true).wpIn (Fence.wide.inRound lr) n P Q a0 w0 := by
  have hsp := invB_spec l 0 hB
  refine wpIn_region_any hm (wpAnyIn_round hd _ _ _ _ (wpAnyIn_inv9 (InvS l S C a0) ?_ ?_ _ _ _ _ (by simp) (by simp) ?_))
  · intro listed a w i hs hi hI
    obtain ⟨h0, o, ho, hall⟩ := mem_ready.1 hi
    have ho' : l[i]? = some o := by simpa using ho
    have hil : i < listed.size := by rw [hs]; exact (Array.getElem?_eq_some_iff.1 ho).1
    have h0f : listed.getD i false = false := by simpa [hil] using h0
    obtain ⟨hdd, hback⟩ := hsp i o ho'
    have hok := OpsOK.at l 0 hops i o ho'
    rw [Nat.zero_add] at hok
    refine wpOpIn_step9 ho fun K' hK' => hok listed a w hI.cls (by rw [hs]; simp) h0f (fun j p hj hw => ?_) (fun t v ht h => ?_) (fun j e hw he => ?_) _ fun v w' hR hc hv => hK' _ _ ?_
    · cases hlj : listed.getD j false with
      | false => rfl
      | true =>
        unfold waitsB at hw
        obtain ⟨ed, hed, hb⟩ := Array.any_eq_true'.1 hw
        simp only [Bool.and_eq_true, beq_iff_eq] at hb
        have := hI.closed j p hj hlj ed hed hb.1
        rw [hb.2, h0f] at this
        cases this
    · rw [← h, Array.getD_eq_getD_getElem?, Array.getD_eq_getD_getElem?, hI.same t ht]
    · unfold waitsB at hw
      obtain ⟨ed, hed, hb⟩ := Array.any_eq_true'.1 hw
      simp only [Bool.and_eq_true, beq_iff_eq] at hb
      obtain ⟨u, hu1, hu2⟩ := hI.slot j e he (by rw [← hb.2]; exact hall ed hed hb.1)
      exact ⟨u, by rw [Array.getD_eq_getD_getElem?, hu1]; rfl, hu2⟩
    · have hnot : ∀ t, nobodyB l t = true → o.dst ≠ some t := fun t ht hd => nobody_iff ht i (by unfold dstOf; simp [ho', hd])
      have hput : ∀ t, o.dst ≠ some t → (a.put o.dst v).tmps[t]? = a.tmps[t]? := fun t ht => by
        cases hd : o.dst with
        | none => rfl
        | some d =>
          simp only [Act.put]
          rw [Array.getElem?_setIfInBounds_ne (fun e => ht (by rw [hd, e]))]
      have hsz : (a.put o.dst v).tmps.size = a.tmps.size := by cases o.dst <;> simp [Act.put]
      refine ⟨hc, by rw [← hI.defers]; cases o.dst <;> rfl, by rw [hsz]; exact hI.size, fun t ht => (hput t (hnot t ht)).trans (hI.same t ht), fun j e he hl => ?_, fun j p hj hl ed hed hb => ?_⟩
      · by_cases hji : j = i
        · subst hji
          have hed : o.dst = some e := by unfold dstOf at he; simp [ho'] at he; exact he
          refine ⟨v, ?_, hv (by rw [hed]; rfl)⟩
          rw [hed]
          simp only [Act.put]
          rw [Array.getElem?_setIfInBounds_self_of_lt (by rw [hI.size]; exact (hdd e hed).1)]
        · rw [getD_set_ne false (Ne.symm hji)] at hl
          obtain ⟨u, hu1, hu2⟩ := hI.slot j e he hl
          refine ⟨u, ?_, hst j w w' u hR hu2⟩
          refine (hput e (fun hd => ?_)).trans hu1
          unfold dstOf at he
          obtain ⟨p, hp, hpd⟩ := Option.bind_eq_some_iff.1 he
          have hp' : l[j]? = some p := by simpa using hp
          rcases Nat.lt_or_ge i j with hlt | hge
          · exact (hdd e hd).2 j p hp' hlt hpd
          · exact ((hsp j p hp').1 e hpd).2 i o ho' (by omega) hd
      · by_cases hji : j = i
        · subst hji
          rw [ho'] at hj
          injection hj with hj
          subst hj
          exact getD_set_true (hall ed hed hb)
        · rw [getD_set_ne false (Ne.symm hji)] at hl
          exact getD_set_true (hI.closed j p hj hl ed hed hb)
  · intro listed a w hs hr hI
    have hallL : ∀ i, i < l.length → listed.getD i false = true := by
      intro i
      induction i using Nat.strongRecOn with
      | _ i ih =>
        intro hi
        by_cases hli : listed.getD i false = true
        · exact hli
        · exfalso
          obtain ⟨o, ho⟩ : ∃ o, l[i]? = some o := ⟨_, List.getElem?_eq_getElem hi⟩
          obtain ⟨_, hback⟩ := hsp i o ho
          have hmem : i ∈ Region.ready .any l.toArray listed := mem_ready.2 ⟨by
            have hlt : i < listed.size := by rw [hs]; simpa using hi
            simp [hlt] at hli ⊢
            exact hli, o, by simpa using ho, fun e he hb => ih e.on (by have := hback e he hb; omega) (by have := hback e he hb; omega)⟩
          rw [hr] at hmem
          cases hmem
    refine ends_of l 0 a0 a _ (hend listed w hallL hI.cls) hB rfl hI.defers hI.size hI.same (fun i d hd => ?_)
    have hi : i < l.length := by
      unfold dstOf at hd
      obtain ⟨p, hp, _⟩ := Option.bind_eq_some_iff.1 hd
      have := (Array.getElem?_eq_some_iff.1 hp).1
      simpa using this
    rw [Nat.zero_add]
    exact hI.slot i d hd (hallL i hi)
  · have hno : ∀ j, (Array.replicate l.toArray.size false).getD j false = false := fun j => by
      rcases Nat.lt_or_ge j l.length with hj | hj
      · simp [hj]
      · simp [Nat.not_lt.2 hj]
    exact ⟨hC, rfl, rfl, fun _ _ => rfl, (fun j d _ h => by rw [hno] at h; cases h), (fun j o _ h => by rw [hno] at h; cases h)⟩
end Go.Proofs.YtndakcognjaeoaaDoor
