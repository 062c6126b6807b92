/-
  The walk over what each law of layer 9 asks first: the examples. Conditions: as each theorem states.
-/
import Derived.Test.YtndakcognjaeoaaDoorK11
import Derived.Test.YtndakcognjaeoaaDoorK12
namespace Go.Proofs.YtndakcognjaeoaaDoor
open Go.RowKit Ver Evr Span Dep Rich

def tblW : List KdN := [.lit (.agg #[.int .u8 1, .string ⟨#[98, 97, 115, 104]⟩, .int .u8 0, .int .i64 0, .string ⟨#[]⟩, .string ⟨#[]⟩, .slice none 0 0]), .lit (.bool true), .lit (.bool true), .lit (.agg #[.int .u8 1, .string ⟨#[98, 97, 115, 104]⟩, .int .u8 0, .int .i64 0, .string ⟨#[]⟩, .string ⟨#[]⟩, .slice none 0 0]), .lit (.int .i64 0), .lit (.bool true), .lit (.bool true), .lit (.bool true), .lit (.agg #[.int .u8 1, .string ⟨#[98, 97, 115, 104]⟩, .int .u8 0, .int .i64 0, .string ⟨#[]⟩, .string ⟨#[]⟩, .slice none 0 0]), .lit (.agg #[.int .u8 1, .string ⟨#[122, 115, 104]⟩, .int .u8 0, .int .i64 0, .string ⟨#[]⟩, .string ⟨#[]⟩, .slice none 0 0]), .slice [.mk 1 ⟨[98, 97, 115, 104], 0, Dep.zeroD⟩ [], .mk 1 ⟨[122, 115, 104], 0, Dep.zeroD⟩ []], .rich (.mk 4 zD [.mk 1 ⟨[98, 97, 115, 104], 0, Dep.zeroD⟩ [], .mk 1 ⟨[122, 115, 104], 0, Dep.zeroD⟩ []]), .lit (.bool true), .lit (.bool true), .lit (.bool true), .lit (.agg #[.int .u8 1, .string ⟨#[98, 97, 115, 104]⟩, .int .u8 0, .int .i64 0, .string ⟨#[]⟩, .string ⟨#[]⟩, .slice none 0 0]), .lit (.agg #[.int .u8 1, .string ⟨#[98, 97, 115, 104]⟩, .int .u8 0, .int .i64 0, .string ⟨#[]⟩, .string ⟨#[]⟩, .slice none 0 0]), .lit (.agg #[.int .u8 1, .string ⟨#[122, 115, 104]⟩, .int .u8 0, .int .i64 0, .string ⟨#[]⟩, .string ⟨#[]⟩, .slice none 0 0]), .slice [.mk 1 ⟨[98, 97, 115, 104], 0, Dep.zeroD⟩ [], .mk 1 ⟨[122, 115, 104], 0, Dep.zeroD⟩ []], .rich (.mk 5 zD [.mk 1 ⟨[98, 97, 115, 104], 0, Dep.zeroD⟩ [], .mk 1 ⟨[122, 115, 104], 0, Dep.zeroD⟩ []]), .slice [.mk 1 ⟨[98, 97, 115, 104], 0, Dep.zeroD⟩ [], .mk 5 zD [.mk 1 ⟨[98, 97, 115, 104], 0, Dep.zeroD⟩ [], .mk 1 ⟨[122, 115, 104], 0, Dep.zeroD⟩ []]], .rich (.mk 6 zD [.mk 1 ⟨[98, 97, 115, 104], 0, Dep.zeroD⟩ [], .mk 5 zD [.mk 1 ⟨[98, 97, 115, 104], 0, Dep.zeroD⟩ [], .mk 1 ⟨[122, 115, 104], 0, Dep.zeroD⟩ []]]), .lit (.bool true), .lit (.bool true), .lit (.bool true), .lit (.agg #[.int .u8 1, .string ⟨#[98, 97, 115, 104]⟩, .int .u8 0, .int .i64 0, .string ⟨#[]⟩, .string ⟨#[]⟩, .slice none 0 0]), .slice [.mk 1 ⟨[98, 97, 115, 104], 0, Dep.zeroD⟩ []], .rich (.mk 2 zD [.mk 1 ⟨[98, 97, 115, 104], 0, Dep.zeroD⟩ []]), .lit (.bool true), .lit (.bool true), .lit (.bool true)]
set_option maxRecDepth 100000 in
set_option maxHeartbeats 8000000 in
theorem works9_walk (w : World) (hTB : TabW9 w) (hMB : MayP9 w) :
    Calls Tryd.prog 13 #[] w fun e w' => e = .returned (.bool true) ∧ Kept (fun _ => False) w w' := by
  have HTW := Lib.hid hTB
  have HMW := Lib.hid hMB
  clear hTB hMB
  go_enter Tryd.func13, Tryd.ntmps13
  go_wp2_with fail
  refine (atom9_walk ⟨#[98, 97, 115, 104]⟩ w).mono ?_
  rintro e w1 ⟨rfl, hk1⟩
  go_wp2_with fail
  refine (atom9_walk ⟨#[122, 115, 104]⟩ w1).mono ?_
  rintro e w2 ⟨rfl, hk2⟩
  have HK2 := Lib.hid (hk1.trans hk2 (fun _ _ h => h))
  clear hk1 hk2
  go_wp2_with fail
  have HA := Lib.hid (show Box ((w2.alloc (.cells (richA 1 ⟨[98, 97, 115, 104], 0, Dep.zeroD⟩ (.slice none 0 0)) 29)).alloc (.cells (richA 1 ⟨[122, 115, 104], 0, Dep.zeroD⟩ (.slice none 0 0)) 29)) w2.heap.size 29 (richA 1 ⟨[98, 97, 115, 104], 0, Dep.zeroD⟩ (.slice none 0 0)) from Box.after_alloc (Box.made w2 _ _) _)
  have HB := Lib.hid (show Box ((w2.alloc (.cells (richA 1 ⟨[98, 97, 115, 104], 0, Dep.zeroD⟩ (.slice none 0 0)) 29)).alloc (.cells (richA 1 ⟨[122, 115, 104], 0, Dep.zeroD⟩ (.slice none 0 0)) 29)) (w2.heap.size + 1) 29 (richA 1 ⟨[122, 115, 104], 0, Dep.zeroD⟩ (.slice none 0 0)) from by have h := Box.made (w2.alloc (.cells (richA 1 ⟨[98, 97, 115, 104], 0, Dep.zeroD⟩ (.slice none 0 0)) 29)) 29 (richA 1 ⟨[122, 115, 104], 0, Dep.zeroD⟩ (.slice none 0 0)); simpa only [World.size_alloc] using h)
  have HK3 := Lib.hid (show Kept (fun _ => False) w ((w2.alloc (.cells (richA 1 ⟨[98, 97, 115, 104], 0, Dep.zeroD⟩ (.slice none 0 0)) 29)).alloc (.cells (richA 1 ⟨[122, 115, 104], 0, Dep.zeroD⟩ (.slice none 0 0)) 29)) from (HK2.out.alloc _).alloc _)
  have HTB := Lib.hid (HTW.out.kept HK3.out)
  have HMB := Lib.hid (HMW.out.on HK3.out)
  generalize ((w2.alloc (.cells (richA 1 ⟨[98, 97, 115, 104], 0, Dep.zeroD⟩ (.slice none 0 0)) 29)).alloc (.cells (richA 1 ⟨[122, 115, 104], 0, Dep.zeroD⟩ (.slice none 0 0)) 29)) = w3 at *
  generalize w2.heap.size = g2 at *
  refine wp_region_inv (SN tblW) (fun w1 w2 => Kept (fun _ => False) w1 w2) (fun _ w' => Kept (fun _ => False) w3 w') (by kernel_rfl) (by kernel_rfl) (Kept.refl (fun _ => False) w3).drew (fun j w1 w2 v h hs => SN.kept tblW j w1 w2 v h hs) ⟨OpOK.plain rfl ?_, OpOK.plain rfl ?_, OpOK.plain rfl ?_, OpOK.yes (g := 2) (d := 7) (b := true) rfl (by kernel_rfl) (by kernel_rfl) (fun _ _ h => SN.lit (tbl := tblW) (by kernel_rfl) h) ?_, OpOK.yes (g := 2) (d := 7) (b := true) rfl (by kernel_rfl) (by kernel_rfl) (fun _ _ h => SN.lit (tbl := tblW) (by kernel_rfl) h) ?_, OpOK.yes (g := 2) (d := 7) (b := true) rfl (by kernel_rfl) (by kernel_rfl) (fun _ _ h => SN.lit (tbl := tblW) (by kernel_rfl) h) ?_, OpOK.plain rfl ?_, OpOK.plain rfl ?_, OpOK.yes (g := 7) (d := 12) (b := true) rfl (by kernel_rfl) (by kernel_rfl) (fun _ _ h => SN.lit (tbl := tblW) (by kernel_rfl) h) ?_, OpOK.yes (g := 7) (d := 12) (b := true) rfl (by kernel_rfl) (by kernel_rfl) (fun _ _ h => SN.lit (tbl := tblW) (by kernel_rfl) h) ?_, OpOK.yes (g := 7) (d := 12) (b := true) rfl (by kernel_rfl) (by kernel_rfl) (fun _ _ h => SN.lit (tbl := tblW) (by kernel_rfl) h) ?_, OpOK.yes (g := 7) (d := 12) (b := true) rfl (by kernel_rfl) (by kernel_rfl) (fun _ _ h => SN.lit (tbl := tblW) (by kernel_rfl) h) ?_, OpOK.yes (g := 7) (d := 12) (b := true) rfl (by kernel_rfl) (by kernel_rfl) (fun _ _ h => SN.lit (tbl := tblW) (by kernel_rfl) h) ?_, OpOK.plain rfl ?_, OpOK.plain rfl ?_, OpOK.yes (g := 14) (d := 19) (b := true) rfl (by kernel_rfl) (by kernel_rfl) (fun _ _ h => SN.lit (tbl := tblW) (by kernel_rfl) h) ?_, OpOK.yes (g := 14) (d := 19) (b := true) rfl (by kernel_rfl) (by kernel_rfl) (fun _ _ h => SN.lit (tbl := tblW) (by kernel_rfl) h) ?_, OpOK.yes (g := 14) (d := 19) (b := true) rfl (by kernel_rfl) (by kernel_rfl) (fun _ _ h => SN.lit (tbl := tblW) (by kernel_rfl) h) ?_, OpOK.yes (g := 14) (d := 19) (b := true) rfl (by kernel_rfl) (by kernel_rfl) (fun _ _ h => SN.lit (tbl := tblW) (by kernel_rfl) h) ?_, OpOK.yes (g := 14) (d := 19) (b := true) rfl (by kernel_rfl) (by kernel_rfl) (fun _ _ h => SN.lit (tbl := tblW) (by kernel_rfl) h) ?_, OpOK.yes (g := 14) (d := 19) (b := true) rfl (by kernel_rfl) (by kernel_rfl) (fun _ _ h => SN.lit (tbl := tblW) (by kernel_rfl) h) ?_, OpOK.yes (g := 14) (d := 19) (b := true) rfl (by kernel_rfl) (by kernel_rfl) (fun _ _ h => SN.lit (tbl := tblW) (by kernel_rfl) h) ?_, OpOK.yes (g := 14) (d := 19) (b := true) rfl (by kernel_rfl) (by kernel_rfl) (fun _ _ h => SN.lit (tbl := tblW) (by kernel_rfl) h) ?_, OpOK.plain rfl ?_, OpOK.plain rfl ?_, OpOK.yes (g := 24) (d := 29) (b := true) rfl (by kernel_rfl) (by kernel_rfl) (fun _ _ h => SN.lit (tbl := tblW) (by kernel_rfl) h) ?_, OpOK.yes (g := 24) (d := 29) (b := true) rfl (by kernel_rfl) (by kernel_rfl) (fun _ _ h => SN.lit (tbl := tblW) (by kernel_rfl) h) ?_, OpOK.yes (g := 24) (d := 29) (b := true) rfl (by kernel_rfl) (by kernel_rfl) (fun _ _ h => SN.lit (tbl := tblW) (by kernel_rfl) h) ?_, OpOK.yes (g := 24) (d := 29) (b := true) rfl (by kernel_rfl) (by kernel_rfl) (fun _ _ h => SN.lit (tbl := tblW) (by kernel_rfl) h) ?_, OpOK.plain rfl ?_, OpOK.plain rfl ?_, trivial⟩ ?_
  · intro ls a wz hC hz hnew hwait hs hd K hK
    have hbx := hC.box HA.out (fun h => h)
    have c0 := hbx.cell 0
    have c1 := hbx.cell 1
    have c2 := hbx.cell 2
    have c3 := hbx.cell 3
    have c4 := hbx.cell 4
    have c5 := hbx.cell 5
    have c6 := hbx.cell 6
    have t1 := hs 1 _ (by kernel_rfl) rfl
    have t1' := t1
    rw [Array.getD_eq_getD_getElem?] at t1'
    clear hs hd hbx
    go_simp
    exact hK _ _ (Kept.refl (fun _ => False) wz) hC (fun _ => SN.mkLit (by kernel_rfl))
  · intro ls a wz hC hz hnew hwait hs hd K hK
    have d0 : a.tmps.getD 5 undef = .agg #[.int .u8 1, .string ⟨#[98, 97, 115, 104]⟩, .int .u8 0, .int .i64 0, .string ⟨#[]⟩, .string ⟨#[]⟩, .slice none 0 0] := by
      obtain ⟨u, hu, hv⟩ := hd 0 5 (by kernel_rfl) (by kernel_rfl)
      rw [hu]; exact SN.lit (tbl := tblW) (by kernel_rfl) hv
    have d0' : a.tmps[5]?.getD undef = .agg #[.int .u8 1, .string ⟨#[98, 97, 115, 104]⟩, .int .u8 0, .int .i64 0, .string ⟨#[]⟩, .string ⟨#[]⟩, .slice none 0 0] := by rw [← Array.getD_eq_getD_getElem?]; exact d0
    clear hs hd
    go_simp
    refine (only9_walk (.mk 1 ⟨[98, 97, 115, 104], 0, Dep.zeroD⟩ []) _ 3 wz (richS_nil (by decide) (by decide)) (of_decide_eq_true (by kernel_rfl)) (HTB.out.kept hC) (HMB.out.on hC)).mono ?_
    rintro e wv ⟨rfl, hkv⟩
    exact hK _ _ hkv (hC.trans hkv (fun _ _ h => h)) (fun _ => SN.mkLit (by kernel_rfl))
  · intro ls a wz hC hz hnew hwait hs hd K hK
    have d1 : a.tmps.getD 6 undef = .bool true := by
      obtain ⟨u, hu, hv⟩ := hd 1 6 (by kernel_rfl) (by kernel_rfl)
      rw [hu]; exact SN.lit (tbl := tblW) (by kernel_rfl) hv
    have d1' : a.tmps[6]?.getD undef = .bool true := by rw [← Array.getD_eq_getD_getElem?]; exact d1
    clear hs hd
    go_simp
    exact hK _ _ (Kept.refl (fun _ => False) wz) hC (fun _ => SN.mkLit (by kernel_rfl))
  · intro ls a wz hC hz hnew hwait hs hd K hK
    have hbx := hC.box HA.out (fun h => h)
    have c0 := hbx.cell 0
    have c1 := hbx.cell 1
    have c2 := hbx.cell 2
    have c3 := hbx.cell 3
    have c4 := hbx.cell 4
    have c5 := hbx.cell 5
    have c6 := hbx.cell 6
    have t1 := hs 1 _ (by kernel_rfl) rfl
    have t1' := t1
    rw [Array.getD_eq_getD_getElem?] at t1'
    clear hs hd hbx
    go_simp
    exact hK _ _ (Kept.refl (fun _ => False) wz) hC (fun _ => SN.mkLit (by kernel_rfl))
  · intro ls a wz hC hz hnew hwait hs hd K hK
    have d3 : a.tmps.getD 8 undef = .agg #[.int .u8 1, .string ⟨#[98, 97, 115, 104]⟩, .int .u8 0, .int .i64 0, .string ⟨#[]⟩, .string ⟨#[]⟩, .slice none 0 0] := by
      obtain ⟨u, hu, hv⟩ := hd 3 8 (by kernel_rfl) (by kernel_rfl)
      rw [hu]; exact SN.lit (tbl := tblW) (by kernel_rfl) hv
    have d3' : a.tmps[8]?.getD undef = .agg #[.int .u8 1, .string ⟨#[98, 97, 115, 104]⟩, .int .u8 0, .int .i64 0, .string ⟨#[]⟩, .string ⟨#[]⟩, .slice none 0 0] := by rw [← Array.getD_eq_getD_getElem?]; exact d3
    clear hs hd
    go_simp
    refine (depth9_walk (.mk 1 ⟨[98, 97, 115, 104], 0, Dep.zeroD⟩ []) _ wz (richS_nil (by decide) (by decide)) (of_decide_eq_true (by kernel_rfl))).mono ?_
    rintro e wv ⟨rfl, hkv⟩
    exact hK _ _ hkv (hC.trans hkv (fun _ _ h => h)) (fun _ => SN.mkLit (by kernel_rfl))
  · intro ls a wz hC hz hnew hwait hs hd K hK
    have d4 : a.tmps.getD 9 undef = .int .i64 0 := by
      obtain ⟨u, hu, hv⟩ := hd 4 9 (by kernel_rfl) (by kernel_rfl)
      rw [hu]; exact SN.lit (tbl := tblW) (by kernel_rfl) hv
    have d4' : a.tmps[9]?.getD undef = .int .i64 0 := by rw [← Array.getD_eq_getD_getElem?]; exact d4
    clear hs hd
    go_simp
    exact hK _ _ (Kept.refl (fun _ => False) wz) hC (fun _ => SN.mkLit (by kernel_rfl))
  · intro ls a wz hC hz hnew hwait hs hd K hK
    have d2 : a.tmps.getD 7 undef = .bool true := by
      obtain ⟨u, hu, hv⟩ := hd 2 7 (by kernel_rfl) (by kernel_rfl)
      rw [hu]; exact SN.lit (tbl := tblW) (by kernel_rfl) hv
    have d2' : a.tmps[7]?.getD undef = .bool true := by rw [← Array.getD_eq_getD_getElem?]; exact d2
    have d5 : a.tmps.getD 10 undef = .bool true := by
      obtain ⟨u, hu, hv⟩ := hd 5 10 (by kernel_rfl) (by kernel_rfl)
      rw [hu]; exact SN.lit (tbl := tblW) (by kernel_rfl) hv
    have d5' : a.tmps[10]?.getD undef = .bool true := by rw [← Array.getD_eq_getD_getElem?]; exact d5
    clear hs hd
    go_simp
    exact hK _ _ (Kept.refl (fun _ => False) wz) hC (fun _ => SN.mkLit (by kernel_rfl))
  · intro ls a wz hC hz hnew hwait hs hd K hK
    have d6 : a.tmps.getD 11 undef = .bool true := by
      obtain ⟨u, hu, hv⟩ := hd 6 11 (by kernel_rfl) (by kernel_rfl)
      rw [hu]; exact SN.lit (tbl := tblW) (by kernel_rfl) hv
    have d6' : a.tmps[11]?.getD undef = .bool true := by rw [← Array.getD_eq_getD_getElem?]; exact d6
    clear hs hd
    go_simp
    exact hK _ _ (Kept.refl (fun _ => False) wz) hC (fun _ => SN.mkLit (by kernel_rfl))
  · intro ls a wz hC hz hnew hwait hs hd K hK
    have hbx := hC.box HA.out (fun h => h)
    have c0 := hbx.cell 0
    have c1 := hbx.cell 1
    have c2 := hbx.cell 2
    have c3 := hbx.cell 3
    have c4 := hbx.cell 4
    have c5 := hbx.cell 5
    have c6 := hbx.cell 6
    have t1 := hs 1 _ (by kernel_rfl) rfl
    have t1' := t1
    rw [Array.getD_eq_getD_getElem?] at t1'
    clear hs hd hbx
    go_simp
    exact hK _ _ (Kept.refl (fun _ => False) wz) hC (fun _ => SN.mkLit (by kernel_rfl))
  · intro ls a wz hC hz hnew hwait hs hd K hK
    have hbx := hC.box HB.out (fun h => h)
    have c0 := hbx.cell 0
    have c1 := hbx.cell 1
    have c2 := hbx.cell 2
    have c3 := hbx.cell 3
    have c4 := hbx.cell 4
    have c5 := hbx.cell 5
    have c6 := hbx.cell 6
    have t2 := hs 2 _ (by kernel_rfl) rfl
    have t2' := t2
    rw [Array.getD_eq_getD_getElem?] at t2'
    clear hs hd hbx
    go_simp
    exact hK _ _ (Kept.refl (fun _ => False) wz) hC (fun _ => SN.mkLit (by kernel_rfl))
  · intro ls a wz hC hz hnew hwait hs hd K hK
    have d8 : a.tmps.getD 13 undef = .agg #[.int .u8 1, .string ⟨#[98, 97, 115, 104]⟩, .int .u8 0, .int .i64 0, .string ⟨#[]⟩, .string ⟨#[]⟩, .slice none 0 0] := by
      obtain ⟨u, hu, hv⟩ := hd 8 13 (by kernel_rfl) (by kernel_rfl)
      rw [hu]; exact SN.lit (tbl := tblW) (by kernel_rfl) hv
    have d8' : a.tmps[13]?.getD undef = .agg #[.int .u8 1, .string ⟨#[98, 97, 115, 104]⟩, .int .u8 0, .int .i64 0, .string ⟨#[]⟩, .string ⟨#[]⟩, .slice none 0 0] := by rw [← Array.getD_eq_getD_getElem?]; exact d8
    have d9 : a.tmps.getD 14 undef = .agg #[.int .u8 1, .string ⟨#[122, 115, 104]⟩, .int .u8 0, .int .i64 0, .string ⟨#[]⟩, .string ⟨#[]⟩, .slice none 0 0] := by
      obtain ⟨u, hu, hv⟩ := hd 9 14 (by kernel_rfl) (by kernel_rfl)
      rw [hu]; exact SN.lit (tbl := tblW) (by kernel_rfl) hv
    have d9' : a.tmps[14]?.getD undef = .agg #[.int .u8 1, .string ⟨#[122, 115, 104]⟩, .int .u8 0, .int .i64 0, .string ⟨#[]⟩, .string ⟨#[]⟩, .slice none 0 0] := by rw [← Array.getD_eq_getD_getElem?]; exact d9
    clear hs hd
    go_simp
    exact hK _ _ ((Kept.refl (fun _ => False) wz).alloc _) (hC.alloc _) (fun _ => SN.mkSl (l := [.mk 1 ⟨[98, 97, 115, 104], 0, Dep.zeroD⟩ [], .mk 1 ⟨[122, 115, 104], 0, Dep.zeroD⟩ []]) (by kernel_rfl) (sl_new [(.mk 1 ⟨[98, 97, 115, 104], 0, Dep.zeroD⟩ [], none, 0), (.mk 1 ⟨[122, 115, 104], 0, Dep.zeroD⟩ [], none, 0)] rfl (by intro p hp; simp only [List.mem_cons, List.not_mem_nil, or_false] at hp; rcases hp with rfl | rfl <;> first | exact richS_nil (by decide) (by decide) | assumption)))
  · intro ls a wz hC hz hnew hwait hs hd K hK
    obtain ⟨v10, d10, hv10⟩ := hd 10 15 (by kernel_rfl) (by kernel_rfl)
    have hs10 := SN.sl (tbl := tblW) (l := [.mk 1 ⟨[98, 97, 115, 104], 0, Dep.zeroD⟩ [], .mk 1 ⟨[122, 115, 104], 0, Dep.zeroD⟩ []]) (by kernel_rfl) hv10
    obtain ⟨g10, ps10, e10, hb10, hp10, hr10⟩ := hs10
    subst e10
    have d10' : a.tmps[15]?.getD undef = .slice (some ⟨g10, 0, none⟩) ps10.length ps10.length := by rw [← Array.getD_eq_getD_getElem?]; exact d10
    have hq10 : SlR wz [.mk 1 ⟨[98, 97, 115, 104], 0, Dep.zeroD⟩ [], .mk 1 ⟨[122, 115, 104], 0, Dep.zeroD⟩ []] (.slice (some ⟨g10, 0, none⟩) ps10.length ps10.length) := ⟨g10, ps10, rfl, hb10, hp10, hr10⟩
    clear hv10
    clear hs hd
    go_simp
    refine (rich9_walk 4 (.slice (some ⟨g10, 0, none⟩) ps10.length ps10.length) ⟨_, _, _, rfl⟩ wz).mono ?_
    rintro e wv ⟨rfl, hkv⟩
    exact hK _ _ hkv (hC.trans hkv (fun _ _ h => h)) (fun _ => SN.mkRich (x := .mk 4 zD [.mk 1 ⟨[98, 97, 115, 104], 0, Dep.zeroD⟩ [], .mk 1 ⟨[122, 115, 104], 0, Dep.zeroD⟩ []]) (by kernel_rfl) (SlR.rich (hq10.kept hkv) (by decide) (by decide)))
  · intro ls a wz hC hz hnew hwait hs hd K hK
    obtain ⟨v11, d11, hv11⟩ := hd 11 16 (by kernel_rfl) (by kernel_rfl)
    have hr11 := SN.rich (tbl := tblW) (x := .mk 4 zD [.mk 1 ⟨[98, 97, 115, 104], 0, Dep.zeroD⟩ [], .mk 1 ⟨[122, 115, 104], 0, Dep.zeroD⟩ []]) (by kernel_rfl) hv11
    obtain ⟨ao11, cp11, e11⟩ := rich_form hr11
    subst e11
    have d11' := d11
    rw [Array.getD_eq_getD_getElem?] at d11'
    clear hv11
    clear hs hd
    go_simp
    refine (only9_walk (.mk 4 zD [.mk 1 ⟨[98, 97, 115, 104], 0, Dep.zeroD⟩ [], .mk 1 ⟨[122, 115, 104], 0, Dep.zeroD⟩ []]) _ 1 wz hr11 (of_decide_eq_true (by kernel_rfl)) (HTB.out.kept hC) (HMB.out.on hC)).mono ?_
    rintro e wv ⟨rfl, hkv⟩
    exact hK _ _ hkv (hC.trans hkv (fun _ _ h => h)) (fun _ => SN.mkLit (by kernel_rfl))
  · intro ls a wz hC hz hnew hwait hs hd K hK
    have d7 : a.tmps.getD 12 undef = .bool true := by
      obtain ⟨u, hu, hv⟩ := hd 7 12 (by kernel_rfl) (by kernel_rfl)
      rw [hu]; exact SN.lit (tbl := tblW) (by kernel_rfl) hv
    have d7' : a.tmps[12]?.getD undef = .bool true := by rw [← Array.getD_eq_getD_getElem?]; exact d7
    have d12 : a.tmps.getD 17 undef = .bool true := by
      obtain ⟨u, hu, hv⟩ := hd 12 17 (by kernel_rfl) (by kernel_rfl)
      rw [hu]; exact SN.lit (tbl := tblW) (by kernel_rfl) hv
    have d12' : a.tmps[17]?.getD undef = .bool true := by rw [← Array.getD_eq_getD_getElem?]; exact d12
    clear hs hd
    go_simp
    exact hK _ _ (Kept.refl (fun _ => False) wz) hC (fun _ => SN.mkLit (by kernel_rfl))
  · intro ls a wz hC hz hnew hwait hs hd K hK
    have d13 : a.tmps.getD 18 undef = .bool true := by
      obtain ⟨u, hu, hv⟩ := hd 13 18 (by kernel_rfl) (by kernel_rfl)
      rw [hu]; exact SN.lit (tbl := tblW) (by kernel_rfl) hv
    have d13' : a.tmps[18]?.getD undef = .bool true := by rw [← Array.getD_eq_getD_getElem?]; exact d13
    clear hs hd
    go_simp
    exact hK _ _ (Kept.refl (fun _ => False) wz) hC (fun _ => SN.mkLit (by kernel_rfl))
  · intro ls a wz hC hz hnew hwait hs hd K hK
    have hbx := hC.box HA.out (fun h => h)
    have c0 := hbx.cell 0
    have c1 := hbx.cell 1
    have c2 := hbx.cell 2
    have c3 := hbx.cell 3
    have c4 := hbx.cell 4
    have c5 := hbx.cell 5
    have c6 := hbx.cell 6
    have t1 := hs 1 _ (by kernel_rfl) rfl
    have t1' := t1
    rw [Array.getD_eq_getD_getElem?] at t1'
    clear hs hd hbx
    go_simp
    exact hK _ _ (Kept.refl (fun _ => False) wz) hC (fun _ => SN.mkLit (by kernel_rfl))
  · intro ls a wz hC hz hnew hwait hs hd K hK
    have hbx := hC.box HA.out (fun h => h)
    have c0 := hbx.cell 0
    have c1 := hbx.cell 1
    have c2 := hbx.cell 2
    have c3 := hbx.cell 3
    have c4 := hbx.cell 4
    have c5 := hbx.cell 5
    have c6 := hbx.cell 6
    have t1 := hs 1 _ (by kernel_rfl) rfl
    have t1' := t1
    rw [Array.getD_eq_getD_getElem?] at t1'
    clear hs hd hbx
    go_simp
    exact hK _ _ (Kept.refl (fun _ => False) wz) hC (fun _ => SN.mkLit (by kernel_rfl))
  · intro ls a wz hC hz hnew hwait hs hd K hK
    have hbx := hC.box HB.out (fun h => h)
    have c0 := hbx.cell 0
    have c1 := hbx.cell 1
    have c2 := hbx.cell 2
    have c3 := hbx.cell 3
    have c4 := hbx.cell 4
    have c5 := hbx.cell 5
    have c6 := hbx.cell 6
    have t2 := hs 2 _ (by kernel_rfl) rfl
    have t2' := t2
    rw [Array.getD_eq_getD_getElem?] at t2'
    clear hs hd hbx
    go_simp
    exact hK _ _ (Kept.refl (fun _ => False) wz) hC (fun _ => SN.mkLit (by kernel_rfl))
  · intro ls a wz hC hz hnew hwait hs hd K hK
    have d16 : a.tmps.getD 21 undef = .agg #[.int .u8 1, .string ⟨#[98, 97, 115, 104]⟩, .int .u8 0, .int .i64 0, .string ⟨#[]⟩, .string ⟨#[]⟩, .slice none 0 0] := by
      obtain ⟨u, hu, hv⟩ := hd 16 21 (by kernel_rfl) (by kernel_rfl)
      rw [hu]; exact SN.lit (tbl := tblW) (by kernel_rfl) hv
    have d16' : a.tmps[21]?.getD undef = .agg #[.int .u8 1, .string ⟨#[98, 97, 115, 104]⟩, .int .u8 0, .int .i64 0, .string ⟨#[]⟩, .string ⟨#[]⟩, .slice none 0 0] := by rw [← Array.getD_eq_getD_getElem?]; exact d16
    have d17 : a.tmps.getD 22 undef = .agg #[.int .u8 1, .string ⟨#[122, 115, 104]⟩, .int .u8 0, .int .i64 0, .string ⟨#[]⟩, .string ⟨#[]⟩, .slice none 0 0] := by
      obtain ⟨u, hu, hv⟩ := hd 17 22 (by kernel_rfl) (by kernel_rfl)
      rw [hu]; exact SN.lit (tbl := tblW) (by kernel_rfl) hv
    have d17' : a.tmps[22]?.getD undef = .agg #[.int .u8 1, .string ⟨#[122, 115, 104]⟩, .int .u8 0, .int .i64 0, .string ⟨#[]⟩, .string ⟨#[]⟩, .slice none 0 0] := by rw [← Array.getD_eq_getD_getElem?]; exact d17
    clear hs hd
    go_simp
    exact hK _ _ ((Kept.refl (fun _ => False) wz).alloc _) (hC.alloc _) (fun _ => SN.mkSl (l := [.mk 1 ⟨[98, 97, 115, 104], 0, Dep.zeroD⟩ [], .mk 1 ⟨[122, 115, 104], 0, Dep.zeroD⟩ []]) (by kernel_rfl) (sl_new [(.mk 1 ⟨[98, 97, 115, 104], 0, Dep.zeroD⟩ [], none, 0), (.mk 1 ⟨[122, 115, 104], 0, Dep.zeroD⟩ [], none, 0)] rfl (by intro p hp; simp only [List.mem_cons, List.not_mem_nil, or_false] at hp; rcases hp with rfl | rfl <;> first | exact richS_nil (by decide) (by decide) | assumption)))
  · intro ls a wz hC hz hnew hwait hs hd K hK
    obtain ⟨v18, d18, hv18⟩ := hd 18 23 (by kernel_rfl) (by kernel_rfl)
    have hs18 := SN.sl (tbl := tblW) (l := [.mk 1 ⟨[98, 97, 115, 104], 0, Dep.zeroD⟩ [], .mk 1 ⟨[122, 115, 104], 0, Dep.zeroD⟩ []]) (by kernel_rfl) hv18
    obtain ⟨g18, ps18, e18, hb18, hp18, hr18⟩ := hs18
    subst e18
    have d18' : a.tmps[23]?.getD undef = .slice (some ⟨g18, 0, none⟩) ps18.length ps18.length := by rw [← Array.getD_eq_getD_getElem?]; exact d18
    have hq18 : SlR wz [.mk 1 ⟨[98, 97, 115, 104], 0, Dep.zeroD⟩ [], .mk 1 ⟨[122, 115, 104], 0, Dep.zeroD⟩ []] (.slice (some ⟨g18, 0, none⟩) ps18.length ps18.length) := ⟨g18, ps18, rfl, hb18, hp18, hr18⟩
    clear hv18
    clear hs hd
    go_simp
    refine (rich9_walk 5 (.slice (some ⟨g18, 0, none⟩) ps18.length ps18.length) ⟨_, _, _, rfl⟩ wz).mono ?_
    rintro e wv ⟨rfl, hkv⟩
    exact hK _ _ hkv (hC.trans hkv (fun _ _ h => h)) (fun _ => SN.mkRich (x := .mk 5 zD [.mk 1 ⟨[98, 97, 115, 104], 0, Dep.zeroD⟩ [], .mk 1 ⟨[122, 115, 104], 0, Dep.zeroD⟩ []]) (by kernel_rfl) (SlR.rich (hq18.kept hkv) (by decide) (by decide)))
  · intro ls a wz hC hz hnew hwait hs hd K hK
    have d15 : a.tmps.getD 20 undef = .agg #[.int .u8 1, .string ⟨#[98, 97, 115, 104]⟩, .int .u8 0, .int .i64 0, .string ⟨#[]⟩, .string ⟨#[]⟩, .slice none 0 0] := by
      obtain ⟨u, hu, hv⟩ := hd 15 20 (by kernel_rfl) (by kernel_rfl)
      rw [hu]; exact SN.lit (tbl := tblW) (by kernel_rfl) hv
    have d15' : a.tmps[20]?.getD undef = .agg #[.int .u8 1, .string ⟨#[98, 97, 115, 104]⟩, .int .u8 0, .int .i64 0, .string ⟨#[]⟩, .string ⟨#[]⟩, .slice none 0 0] := by rw [← Array.getD_eq_getD_getElem?]; exact d15
    obtain ⟨v19, d19, hv19⟩ := hd 19 24 (by kernel_rfl) (by kernel_rfl)
    have hr19 := SN.rich (tbl := tblW) (x := .mk 5 zD [.mk 1 ⟨[98, 97, 115, 104], 0, Dep.zeroD⟩ [], .mk 1 ⟨[122, 115, 104], 0, Dep.zeroD⟩ []]) (by kernel_rfl) hv19
    obtain ⟨ao19, cp19, e19⟩ := rich_form hr19
    subst e19
    have d19' := d19
    rw [Array.getD_eq_getD_getElem?] at d19'
    clear hv19
    clear hs hd
    go_simp
    exact hK _ _ ((Kept.refl (fun _ => False) wz).alloc _) (hC.alloc _) (fun _ => SN.mkSl (l := [.mk 1 ⟨[98, 97, 115, 104], 0, Dep.zeroD⟩ [], .mk 5 zD [.mk 1 ⟨[98, 97, 115, 104], 0, Dep.zeroD⟩ [], .mk 1 ⟨[122, 115, 104], 0, Dep.zeroD⟩ []]]) (by kernel_rfl) (sl_new [(.mk 1 ⟨[98, 97, 115, 104], 0, Dep.zeroD⟩ [], none, 0), (.mk 5 zD [.mk 1 ⟨[98, 97, 115, 104], 0, Dep.zeroD⟩ [], .mk 1 ⟨[122, 115, 104], 0, Dep.zeroD⟩ []], ao19, cp19)] rfl (by intro p hp; simp only [List.mem_cons, List.not_mem_nil, or_false] at hp; rcases hp with rfl | rfl <;> first | exact richS_nil (by decide) (by decide) | assumption)))
  · intro ls a wz hC hz hnew hwait hs hd K hK
    obtain ⟨v20, d20, hv20⟩ := hd 20 25 (by kernel_rfl) (by kernel_rfl)
    have hs20 := SN.sl (tbl := tblW) (l := [.mk 1 ⟨[98, 97, 115, 104], 0, Dep.zeroD⟩ [], .mk 5 zD [.mk 1 ⟨[98, 97, 115, 104], 0, Dep.zeroD⟩ [], .mk 1 ⟨[122, 115, 104], 0, Dep.zeroD⟩ []]]) (by kernel_rfl) hv20
    obtain ⟨g20, ps20, e20, hb20, hp20, hr20⟩ := hs20
    subst e20
    have d20' : a.tmps[25]?.getD undef = .slice (some ⟨g20, 0, none⟩) ps20.length ps20.length := by rw [← Array.getD_eq_getD_getElem?]; exact d20
    have hq20 : SlR wz [.mk 1 ⟨[98, 97, 115, 104], 0, Dep.zeroD⟩ [], .mk 5 zD [.mk 1 ⟨[98, 97, 115, 104], 0, Dep.zeroD⟩ [], .mk 1 ⟨[122, 115, 104], 0, Dep.zeroD⟩ []]] (.slice (some ⟨g20, 0, none⟩) ps20.length ps20.length) := ⟨g20, ps20, rfl, hb20, hp20, hr20⟩
    clear hv20
    clear hs hd
    go_simp
    refine (rich9_walk 6 (.slice (some ⟨g20, 0, none⟩) ps20.length ps20.length) ⟨_, _, _, rfl⟩ wz).mono ?_
    rintro e wv ⟨rfl, hkv⟩
    exact hK _ _ hkv (hC.trans hkv (fun _ _ h => h)) (fun _ => SN.mkRich (x := .mk 6 zD [.mk 1 ⟨[98, 97, 115, 104], 0, Dep.zeroD⟩ [], .mk 5 zD [.mk 1 ⟨[98, 97, 115, 104], 0, Dep.zeroD⟩ [], .mk 1 ⟨[122, 115, 104], 0, Dep.zeroD⟩ []]]) (by kernel_rfl) (SlR.rich (hq20.kept hkv) (by decide) (by decide)))
  · intro ls a wz hC hz hnew hwait hs hd K hK
    obtain ⟨v21, d21, hv21⟩ := hd 21 26 (by kernel_rfl) (by kernel_rfl)
    have hr21 := SN.rich (tbl := tblW) (x := .mk 6 zD [.mk 1 ⟨[98, 97, 115, 104], 0, Dep.zeroD⟩ [], .mk 5 zD [.mk 1 ⟨[98, 97, 115, 104], 0, Dep.zeroD⟩ [], .mk 1 ⟨[122, 115, 104], 0, Dep.zeroD⟩ []]]) (by kernel_rfl) hv21
    obtain ⟨ao21, cp21, e21⟩ := rich_form hr21
    subst e21
    have d21' := d21
    rw [Array.getD_eq_getD_getElem?] at d21'
    clear hv21
    clear hs hd
    go_simp
    refine (only9_walk (.mk 6 zD [.mk 1 ⟨[98, 97, 115, 104], 0, Dep.zeroD⟩ [], .mk 5 zD [.mk 1 ⟨[98, 97, 115, 104], 0, Dep.zeroD⟩ [], .mk 1 ⟨[122, 115, 104], 0, Dep.zeroD⟩ []]]) _ 0 wz hr21 (of_decide_eq_true (by kernel_rfl)) (HTB.out.kept hC) (HMB.out.on hC)).mono ?_
    rintro e wv ⟨rfl, hkv⟩
    exact hK _ _ hkv (hC.trans hkv (fun _ _ h => h)) (fun _ => SN.mkLit (by kernel_rfl))
  · intro ls a wz hC hz hnew hwait hs hd K hK
    have d14 : a.tmps.getD 19 undef = .bool true := by
      obtain ⟨u, hu, hv⟩ := hd 14 19 (by kernel_rfl) (by kernel_rfl)
      rw [hu]; exact SN.lit (tbl := tblW) (by kernel_rfl) hv
    have d14' : a.tmps[19]?.getD undef = .bool true := by rw [← Array.getD_eq_getD_getElem?]; exact d14
    have d22 : a.tmps.getD 27 undef = .bool true := by
      obtain ⟨u, hu, hv⟩ := hd 22 27 (by kernel_rfl) (by kernel_rfl)
      rw [hu]; exact SN.lit (tbl := tblW) (by kernel_rfl) hv
    have d22' : a.tmps[27]?.getD undef = .bool true := by rw [← Array.getD_eq_getD_getElem?]; exact d22
    clear hs hd
    go_simp
    exact hK _ _ (Kept.refl (fun _ => False) wz) hC (fun _ => SN.mkLit (by kernel_rfl))
  · intro ls a wz hC hz hnew hwait hs hd K hK
    have d23 : a.tmps.getD 28 undef = .bool true := by
      obtain ⟨u, hu, hv⟩ := hd 23 28 (by kernel_rfl) (by kernel_rfl)
      rw [hu]; exact SN.lit (tbl := tblW) (by kernel_rfl) hv
    have d23' : a.tmps[28]?.getD undef = .bool true := by rw [← Array.getD_eq_getD_getElem?]; exact d23
    clear hs hd
    go_simp
    exact hK _ _ (Kept.refl (fun _ => False) wz) hC (fun _ => SN.mkLit (by kernel_rfl))
  · intro ls a wz hC hz hnew hwait hs hd K hK
    have hbx := hC.box HA.out (fun h => h)
    have c0 := hbx.cell 0
    have c1 := hbx.cell 1
    have c2 := hbx.cell 2
    have c3 := hbx.cell 3
    have c4 := hbx.cell 4
    have c5 := hbx.cell 5
    have c6 := hbx.cell 6
    have t1 := hs 1 _ (by kernel_rfl) rfl
    have t1' := t1
    rw [Array.getD_eq_getD_getElem?] at t1'
    clear hs hd hbx
    go_simp
    exact hK _ _ (Kept.refl (fun _ => False) wz) hC (fun _ => SN.mkLit (by kernel_rfl))
  · intro ls a wz hC hz hnew hwait hs hd K hK
    have d25 : a.tmps.getD 30 undef = .agg #[.int .u8 1, .string ⟨#[98, 97, 115, 104]⟩, .int .u8 0, .int .i64 0, .string ⟨#[]⟩, .string ⟨#[]⟩, .slice none 0 0] := by
      obtain ⟨u, hu, hv⟩ := hd 25 30 (by kernel_rfl) (by kernel_rfl)
      rw [hu]; exact SN.lit (tbl := tblW) (by kernel_rfl) hv
    have d25' : a.tmps[30]?.getD undef = .agg #[.int .u8 1, .string ⟨#[98, 97, 115, 104]⟩, .int .u8 0, .int .i64 0, .string ⟨#[]⟩, .string ⟨#[]⟩, .slice none 0 0] := by rw [← Array.getD_eq_getD_getElem?]; exact d25
    clear hs hd
    go_simp
    exact hK _ _ ((Kept.refl (fun _ => False) wz).alloc _) (hC.alloc _) (fun _ => SN.mkSl (l := [.mk 1 ⟨[98, 97, 115, 104], 0, Dep.zeroD⟩ []]) (by kernel_rfl) (sl_new [(.mk 1 ⟨[98, 97, 115, 104], 0, Dep.zeroD⟩ [], none, 0)] rfl (by intro p hp; simp only [List.mem_cons, List.not_mem_nil, or_false] at hp; rcases hp with rfl <;> first | exact richS_nil (by decide) (by decide) | assumption)))
  · intro ls a wz hC hz hnew hwait hs hd K hK
    obtain ⟨v26, d26, hv26⟩ := hd 26 31 (by kernel_rfl) (by kernel_rfl)
    have hs26 := SN.sl (tbl := tblW) (l := [.mk 1 ⟨[98, 97, 115, 104], 0, Dep.zeroD⟩ []]) (by kernel_rfl) hv26
    obtain ⟨g26, ps26, e26, hb26, hp26, hr26⟩ := hs26
    subst e26
    have d26' : a.tmps[31]?.getD undef = .slice (some ⟨g26, 0, none⟩) ps26.length ps26.length := by rw [← Array.getD_eq_getD_getElem?]; exact d26
    have hq26 : SlR wz [.mk 1 ⟨[98, 97, 115, 104], 0, Dep.zeroD⟩ []] (.slice (some ⟨g26, 0, none⟩) ps26.length ps26.length) := ⟨g26, ps26, rfl, hb26, hp26, hr26⟩
    clear hv26
    clear hs hd
    go_simp
    refine (rich9_walk 2 (.slice (some ⟨g26, 0, none⟩) ps26.length ps26.length) ⟨_, _, _, rfl⟩ wz).mono ?_
    rintro e wv ⟨rfl, hkv⟩
    exact hK _ _ hkv (hC.trans hkv (fun _ _ h => h)) (fun _ => SN.mkRich (x := .mk 2 zD [.mk 1 ⟨[98, 97, 115, 104], 0, Dep.zeroD⟩ []]) (by kernel_rfl) (SlR.rich (hq26.kept hkv) (by decide) (by decide)))
  · intro ls a wz hC hz hnew hwait hs hd K hK
    obtain ⟨v27, d27, hv27⟩ := hd 27 32 (by kernel_rfl) (by kernel_rfl)
    have hr27 := SN.rich (tbl := tblW) (x := .mk 2 zD [.mk 1 ⟨[98, 97, 115, 104], 0, Dep.zeroD⟩ []]) (by kernel_rfl) hv27
    obtain ⟨ao27, cp27, e27⟩ := rich_form hr27
    subst e27
    have d27' := d27
    rw [Array.getD_eq_getD_getElem?] at d27'
    clear hv27
    clear hs hd
    go_simp
    refine (only9_walk (.mk 2 zD [.mk 1 ⟨[98, 97, 115, 104], 0, Dep.zeroD⟩ []]) _ 0 wz hr27 (of_decide_eq_true (by kernel_rfl)) (HTB.out.kept hC) (HMB.out.on hC)).mono ?_
    rintro e wv ⟨rfl, hkv⟩
    exact hK _ _ hkv (hC.trans hkv (fun _ _ h => h)) (fun _ => SN.mkLit (by kernel_rfl))
  · intro ls a wz hC hz hnew hwait hs hd K hK
    have d24 : a.tmps.getD 29 undef = .bool true := by
      obtain ⟨u, hu, hv⟩ := hd 24 29 (by kernel_rfl) (by kernel_rfl)
      rw [hu]; exact SN.lit (tbl := tblW) (by kernel_rfl) hv
    have d24' : a.tmps[29]?.getD undef = .bool true := by rw [← Array.getD_eq_getD_getElem?]; exact d24
    have d28 : a.tmps.getD 33 undef = .bool true := by
      obtain ⟨u, hu, hv⟩ := hd 28 33 (by kernel_rfl) (by kernel_rfl)
      rw [hu]; exact SN.lit (tbl := tblW) (by kernel_rfl) hv
    have d28' : a.tmps[33]?.getD undef = .bool true := by rw [← Array.getD_eq_getD_getElem?]; exact d28
    clear hs hd
    go_simp
    exact hK _ _ (Kept.refl (fun _ => False) wz) hC (fun _ => SN.mkLit (by kernel_rfl))
  · intro ls a wz hC hz hnew hwait hs hd K hK
    have d29 : a.tmps.getD 34 undef = .bool true := by
      obtain ⟨u, hu, hv⟩ := hd 29 34 (by kernel_rfl) (by kernel_rfl)
      rw [hu]; exact SN.lit (tbl := tblW) (by kernel_rfl) hv
    have d29' : a.tmps[34]?.getD undef = .bool true := by rw [← Array.getD_eq_getD_getElem?]; exact d29
    clear hs hd
    go_simp
    exact hK _ _ (Kept.refl (fun _ => False) wz) hC (fun _ => SN.mkLit (by kernel_rfl))
  intro ls wz hall hC
  intro v0 h0
  intro v1 h1
  intro v2 h2
  intro v3 h3
  intro v4 h4
  intro v5 h5
  intro v6 h6
  intro v7 h7
  intro v8 h8
  intro v9 h9
  intro v10 h10
  intro v11 h11
  intro v12 h12
  intro v13 h13
  intro v14 h14
  intro v15 h15
  intro v16 h16
  intro v17 h17
  intro v18 h18
  intro v19 h19
  intro v20 h20
  intro v21 h21
  intro v22 h22
  intro v23 h23
  intro v24 h24
  intro v25 h25
  intro v26 h26
  intro v27 h27
  intro v28 h28
  intro v29 h29
  intro v30 h30
  have hz31 := SN.lit (tbl := tblW) (u := .bool true) (by kernel_rfl) h30
  subst hz31
  clear hall h0 h1 h2 h3 h4 h5 h6 h7 h8 h9 h10 h11 h12 h13 h14 h15 h16 h17 h18 h19 h20 h21 h22 h23 h24 h25 h26 h27 h28 h29
  simp only [EndsP]
  go_simp
  go_wp2_with fail
  go_ret
  exact ⟨rfl, HK3.out.trans hC (fun _ _ h => h)⟩
end Go.Proofs.YtndakcognjaeoaaDoor
