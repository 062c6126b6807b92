/-
  Who provides a dependency, who is named by it (layer 13). Conditions: as each theorem states.
-/
import Derived.Test.YtpdoeapjdifmbaaGreatDoorK34
namespace Go.Proofs.YtpdoeapjdifmbaaGreatDoor
open Go.RowKit Ver Evr Span Dep Rich
open Go.Maps Go.WideMaps

theorem wf_small13 {i : Nat} (h : i < 1000000) : (Lit.int .i64 (i : Int)).wf = true := WalkArith.wf_i64 (by omega)
/-- What the look-up of a name in the first map gives, whatever becomes of new blocks. -/
theorem IS.look1 {lo : Nat} {w : World} {xb : Nat} {l : List Pk} (h : IS lo w xb l) (hL : (evF namesP 0 l).length < 1000000) {nm : ByteArray} (hn : nm.size ≤ maxLen) : ∃ a c m1 m2 au cu, Box w xb 93 #[.slice a l.length c, .map (some m1), .map (some m2)] ∧ IntsS w (.slice au (evI nm (evF namesP 0 l)).length cu) (evI nm (evF namesP 0 l)) ∧ ∀ W, Kept (fun _ => False) w W → (Instr.lookup 77 (.map (some m1)) (.string nm) false).run Tryz.prog W = .ok (.slice au (evI nm (evF namesP 0 l)).length cu) W := by
  obtain ⟨c, v, m1, m2, D1, D2, ps, hG, hps⟩ := h
  have hlen : ps.length = l.length := by have := congrArg List.length hps; simpa using this
  obtain ⟨a, c', e⟩ := own_form hG.row
  have hb := hG.box
  rw [e, hlen] at hb
  obtain ⟨u, hr, hk⟩ := grp_look (c := c) (k := 5) hG.g1 hG.e1 hG.s1 hL hn
  obtain ⟨au, cu, e2⟩ := own_form hk.own.1
  subst e2
  refine ⟨a, c', m1, m2, au, cu, hb, ints_of_own hk.own, fun W hW => ?_⟩
  exact look_same string_keyed12 Tryz.underlying77 zero_ints12 (keyOf_string_mk Tryz.underlying9 hn) hG.g1 (hG.quiet hW).g1 (hW.block m1 (groups_lt hG.g1).1 (fun h => h)) hr
theorem IS.look2 {lo : Nat} {w : World} {xb : Nat} {l : List Pk} (h : IS lo w xb l) (hL : (evF namesO 0 l).length < 1000000) {nm : ByteArray} (hn : nm.size ≤ maxLen) : ∃ a c m1 m2 au cu, Box w xb 93 #[.slice a l.length c, .map (some m1), .map (some m2)] ∧ IntsS w (.slice au (evI nm (evF namesO 0 l)).length cu) (evI nm (evF namesO 0 l)) ∧ ∀ W, Kept (fun _ => False) w W → (Instr.lookup 77 (.map (some m2)) (.string nm) false).run Tryz.prog W = .ok (.slice au (evI nm (evF namesO 0 l)).length cu) W := by
  obtain ⟨c, v, m1, m2, D1, D2, ps, hG, hps⟩ := h
  have hlen : ps.length = l.length := by have := congrArg List.length hps; simpa using this
  obtain ⟨a, c', e⟩ := own_form hG.row
  have hb := hG.box
  rw [e, hlen] at hb
  obtain ⟨u, hr, hk⟩ := grp_look (c := c) (k := 6) hG.g2 hG.e2 hG.s2 hL hn
  obtain ⟨au, cu, e2⟩ := own_form hk.own.1
  subst e2
  refine ⟨a, c', m1, m2, au, cu, hb, ints_of_own hk.own, fun W hW => ?_⟩
  exact look_same string_keyed12 Tryz.underlying77 zero_ints12 (keyOf_string_mk Tryz.underlying9 hn) hG.g2 (hG.quiet hW).g2 (hW.block m2 (groups_lt hG.g2).1 (fun h => h)) hr
def tbproviders13_walk (d : De) (l : List Pk) (xb m1 h0 cu : Nat) (au : Option Addr) : List KdM := [.lit (.func (.func 62) #[] #[.pointer (some ⟨h0, 0, none⟩), .pointer (some ⟨h0 + 1, 0, none⟩)]), .lit (.pointer (some ⟨xb, 0, none⟩)), .lit (.pointer (some ⟨xb, 0, none⟩)), .lit (.pointer (some ⟨xb, 1, none⟩)), .lit (.map (some m1)), .lit (.pointer (some ⟨h0 + 1, 0, none⟩)), .lit (.string d.nm), .lit (.slice au (evI d.nm (evF namesP 0 l)).length cu), .lst ([(.slice au (evI d.nm (evF namesP 0 l)).length cu, (evI d.nm (evF namesP 0 l)))]), .own (h0) ((provL l d)), .own (h0) ((provL l d))]
set_option maxRecDepth 100000 in
set_option maxHeartbeats 16000000 in
theorem providers13_walk {lo : Nat} {w : World} {xb : Nat} {l : List Pk} (hI : IS lo w xb l) (hok : ∀ p ∈ l, PkFits p) (hl : l.length < 1000000) (hE : (evF namesP 0 l).length < 1000000) (d : De) (hd : fitsDe d) :
    Calls Tryz.prog 32 #[.pointer (some ⟨xb, 0, none⟩), .agg #[.string d.nm, .int .u8 (d.o : Int), .int .i64 d.n, .string d.v, .string d.r]] w fun e w' => (∃ v, e = .returned v ∧ w'.ownsInts w.heap.size 3 .i64 v (provL l d)) ∧ Kept (fun _ => False) w w' := by
  have hk1 := (Kept.refl (fun _ => False) w).alloc (.cells #[.pointer (some ⟨xb, 0, none⟩)] 63)
  have hk2 := hk1.alloc (.cells #[.string d.nm, .int .u8 (d.o : Int), .int .i64 d.n, .string d.v, .string d.r] 60)
  have HX := Lib.hid ((Box.made w 63 #[.pointer (some ⟨xb, 0, none⟩)]).after_alloc (.cells #[.string d.nm, .int .u8 (d.o : Int), .int .i64 d.n, .string d.v, .string d.r] 60))
  have hD0 := Box.made (w.alloc (.cells #[.pointer (some ⟨xb, 0, none⟩)] 63)) 60 #[.string d.nm, .int .u8 (d.o : Int), .int .i64 d.n, .string d.v, .string d.r]
  rw [World.size_alloc] at hD0
  have HD := Lib.hid hD0
  have hdn : d.nm.size ≤ maxLen := by have := hd.1; unfold maxLen; omega
  obtain ⟨a, c, m1, m2, au, cu, hb, hu, hlk⟩ := (hI.quiet hk2).look1 hE hdn
  have hle : (evI d.nm (evF namesP 0 l)).length < 1000000 := Nat.lt_of_le_of_lt (evI_len _ _) hE
  have HI := Lib.hid (hI.quiet hk2)
  have HB := Lib.hid hb
  have HU := Lib.hid hu
  have HL := Lib.hid hlk
  have HE := Lib.hid hle
  have HLL := Lib.hid hl
  have HK := Lib.hid hk2
  have HW := Lib.hid hk2.size
  have HOK := Lib.hid hok
  have HDO := Lib.hid (de_ok13 hd)
  have y0 := HX.out.cell 0
  clear hk1 hk2 hI hok hd hD0 hdn hb hu hlk hle hE hl
  go_enter Tryz.func32, Tryz.ntmps32
  go_wp2_with fail
  generalize ((w.alloc (.cells #[.pointer (some ⟨xb, 0, none⟩)] 63)).alloc (.cells #[.string d.nm, .int .u8 (d.o : Int), .int .i64 d.n, .string d.v, .string d.r] 60)) = w2 at HX HD HI HB HU HL HK HW y0 ⊢
  refine wp_region_inv (SM (tbproviders13_walk d l xb m1 w.heap.size cu au)) (fun w1 w2 => Kept (fun _ => False) w1 w2) (fun _ w' => Kept (fun _ => False) w2 w') (by kernel_rfl) (by kernel_rfl) (Kept.refl (fun _ => False) w2).drew (fun j w1 w2 v h hs => SM.kept (tbproviders13_walk d l xb m1 w.heap.size cu au) j w1 w2 v h hs) ⟨OpOK.plain rfl ?r0, OpOK.plain rfl ?r1, OpOK.plain rfl ?r2, OpOK.plain rfl ?r3, OpOK.plain rfl ?r4, OpOK.plain rfl ?r5, OpOK.plain rfl ?r6, OpOK.plain rfl ?r7, OpOK.plain rfl ?r8, OpOK.plain rfl ?r9, OpOK.plain rfl ?r10, trivial⟩ ?rend
  case r0 =>
    intro ls a wz hC hz hnew hwait hs hd K hK
    obtain ⟨t2, t2'⟩ := tmp_both (hs 2 _ (by kernel_rfl) rfl)
    obtain ⟨t3, t3'⟩ := tmp_both (hs 3 _ (by kernel_rfl) rfl)
    clear hs hd
    go_simp
    exact hK _ _ (Kept.refl (fun _ => False) wz) hC (fun _ => SM.pl (by kernel_rfl))
  case r1 =>
    intro ls a wz hC hz hnew hwait hs hd K hK
    obtain ⟨t2, t2'⟩ := tmp_both (hs 2 _ (by kernel_rfl) rfl)
    have kx := (hC.box HX.out (fun h => h)).cell 0
    clear hs hd
    go_simp
    exact hK _ _ (Kept.refl (fun _ => False) wz) hC (fun _ => SM.pl (by kernel_rfl))
  case r2 =>
    intro ls a wz hC hz hnew hwait hs hd K hK
    obtain ⟨d1, d1'⟩ := SM.lt (.pointer (some ⟨xb, 0, none⟩)) (hd 1 8 (by kernel_rfl) (by kernel_rfl)) (by kernel_rfl)
    clear hs hd
    go_simp
    exact hK _ _ (Kept.refl (fun _ => False) wz) hC (fun _ => SM.pl (by kernel_rfl))
  case r3 =>
    intro ls a wz hC hz hnew hwait hs hd K hK
    obtain ⟨d2, d2'⟩ := SM.lt (.pointer (some ⟨xb, 0, none⟩)) (hd 2 9 (by kernel_rfl) (by kernel_rfl)) (by kernel_rfl)
    clear hs hd
    go_simp
    exact hK _ _ (Kept.refl (fun _ => False) wz) hC (fun _ => SM.pl (by kernel_rfl))
  case r4 =>
    intro ls a wz hC hz hnew hwait hs hd K hK
    obtain ⟨d3, d3'⟩ := SM.lt (.pointer (some ⟨xb, 1, none⟩)) (hd 3 10 (by kernel_rfl) (by kernel_rfl)) (by kernel_rfl)
    have km := (hC.box HB.out (fun h => h)).cell 1
    clear hs hd
    go_simp
    exact hK _ _ (Kept.refl (fun _ => False) wz) hC (fun _ => SM.pl (by kernel_rfl))
  case r5 =>
    intro ls a wz hC hz hnew hwait hs hd K hK
    obtain ⟨t3, t3'⟩ := tmp_both (hs 3 _ (by kernel_rfl) rfl)
    clear hs hd
    go_simp
    exact hK _ _ (Kept.refl (fun _ => False) wz) hC (fun _ => SM.pl (by kernel_rfl))
  case r6 =>
    intro ls a wz hC hz hnew hwait hs hd K hK
    obtain ⟨d5, d5'⟩ := SM.lt (.pointer (some ⟨w.heap.size + 1, 0, none⟩)) (hd 5 12 (by kernel_rfl) (by kernel_rfl)) (by kernel_rfl)
    have kn := (hC.box HD.out (fun h => h)).cell 0
    clear hs hd
    go_simp
    exact hK _ _ (Kept.refl (fun _ => False) wz) hC (fun _ => SM.pl (by kernel_rfl))
  case r7 =>
    intro ls a wz hC hz hnew hwait hs hd K hK
    obtain ⟨d4, d4'⟩ := SM.lt (.map (some m1)) (hd 4 11 (by kernel_rfl) (by kernel_rfl)) (by kernel_rfl)
    obtain ⟨d6, d6'⟩ := SM.lt (.string d.nm) (hd 6 13 (by kernel_rfl) (by kernel_rfl)) (by kernel_rfl)
    clear hs hd
    refine oper_lookup (.tmp 11) (.tmp 13) 77 14 rfl rfl d4 d6 (HL.out wz hC) ?_
    exact hK _ _ (Kept.refl _ _) hC (fun _ => SM.mk (tbl := (tbproviders13_walk d l xb m1 w.heap.size cu au)) (k := .lit (.slice au (evI d.nm (evF namesP 0 l)).length cu)) (by kernel_rfl) rfl)
  case r8 =>
    intro ls a wz hC hz hnew hwait hs hd K hK
    obtain ⟨d7, d7'⟩ := SM.lt (.slice au (evI d.nm (evF namesP 0 l)).length cu) (hd 7 14 (by kernel_rfl) (by kernel_rfl)) (by kernel_rfl)
    have hui := HU.out.kept hC
    clear hs hd
    go_simp
    exact hK _ _ ((Kept.refl (fun _ => False) wz).alloc _) (hC.alloc _) (fun _ => SM.mk (tbl := (tbproviders13_walk d l xb m1 w.heap.size cu au)) (k := .lst [(.slice au (evI d.nm (evF namesP 0 l)).length cu, (evI d.nm (evF namesP 0 l)))]) (by kernel_rfl) (lst_one hui))
  case r9 =>
    intro ls a wz hC hz hnew hwait hs hd K hK
    obtain ⟨d0, d0'⟩ := SM.lt (.func (.func 62) #[] #[.pointer (some ⟨w.heap.size, 0, none⟩), .pointer (some ⟨w.heap.size + 1, 0, none⟩)]) (hd 0 7 (by kernel_rfl) (by kernel_rfl)) (by kernel_rfl)
    obtain ⟨v8, d8, hv8⟩ := hd 8 15 (by kernel_rfl) (by kernel_rfl)
    have hq8 : LstS wz v8 ([(.slice au (evI d.nm (evF namesP 0 l)).length cu, (evI d.nm (evF namesP 0 l)))]) := SM.get (k := .lst ([(.slice au (evI d.nm (evF namesP 0 l)).length cu, (evI d.nm (evF namesP 0 l)))])) (by kernel_rfl) hv8
    obtain ⟨ao8, cp8, e8, hc8⟩ := id hq8
    subst e8
    obtain ⟨-, d8'⟩ := tmp_both d8
    clear hv8
    clear hs hd
    go_simp
    refine (which13_walk 62 #[.pointer (some ⟨w.heap.size, 0, none⟩), .pointer (some ⟨w.heap.size + 1, 0, none⟩)] (fun _ _ => by kernel_rfl) (onI fun i => l[i]?.any fun p => provP p d) [(.slice au (evI d.nm (evF namesP 0 l)).length cu, (evI d.nm (evF namesP 0 l)))] _ wz hq8 (fun u hu z hz => ?wf) (by simp) (by simpa [flatL] using HE.out) (fun x hx W hk => ?cl)).mono ?_
    case wf =>
      obtain rfl : u = (.slice au (evI d.nm (evF namesP 0 l)).length cu, (evI d.nm (evF namesP 0 l))) := by simpa using hu
      obtain ⟨i, rfl, hi⟩ := evI_small z hz
      exact wf_small13 (by have := HLL.out; omega)
    case cl =>
      have hx' : x ∈ (evI d.nm (evF namesP 0 l)) := by simpa [flatL] using hx
      obtain ⟨i, p, rfl, hp, _⟩ := evI_mem.1 hx'
      have hkW := hC.trans hk (fun _ _ h => h)
      have h := prov1_walk (HI.out.quiet hkW) HOK.out d HDO.out i p hp w.heap.size (w.heap.size + 1) (hkW.box HX.out (fun h => h)) (hkW.box HD.out (fun h => h))
      simpa [onI, hp] using h
    rintro e wv ⟨⟨v', rfl, ho⟩, hkv⟩
    have ho' : wv.ownsInts w.heap.size 3 .i64 v' (provL l d) := by
      have h := own_less13 ho (b := w.heap.size) (Nat.le_trans HW.out hC.size)
      have e1 : flatL [(.slice au (evI d.nm (evF namesP 0 l)).length cu, (evI d.nm (evF namesP 0 l)))] = (evI d.nm (evF namesP 0 l)) := by simp [flatL]
      rw [e1, prov_nums] at h
      exact h
    exact hK _ _ hkv (hC.trans hkv (fun _ _ h => h)) (fun _ => SM.mk (tbl := (tbproviders13_walk d l xb m1 w.heap.size cu au)) (k := .own (w.heap.size) ((provL l d))) (by kernel_rfl) ho')
  case r10 =>
    intro ls a wz hC hz hnew hwait hs hd K hK
    obtain ⟨v9, d9, hv9⟩ := hd 9 16 (by kernel_rfl) (by kernel_rfl)
    have hq9 : wz.ownsInts (w.heap.size) 3 .i64 v9 ((provL l d)) := SM.get (k := .own (w.heap.size) ((provL l d))) (by kernel_rfl) hv9
    obtain ⟨ao9, cp9, e9⟩ := own_form hq9.1
    subst e9
    obtain ⟨-, d9'⟩ := tmp_both d9
    clear hv9
    clear hs hd
    go_simp
    exact hK _ _ (Kept.refl (fun _ => False) wz) hC (fun _ => SM.mk (tbl := (tbproviders13_walk d l xb m1 w.heap.size cu au)) (k := .own (w.heap.size) ((provL l d))) (by kernel_rfl) hq9)
  case rend =>
    intro ls wz hall hC
    intro u7 h7
    intro u8 h8
    intro u9 h9
    intro u10 h10
    intro u11 h11
    intro u12 h12
    intro u13 h13
    intro u14 h14
    intro u15 h15
    intro u16 h16
    intro u4 h4
    have hfin : wz.ownsInts w.heap.size 3 .i64 u4 (provL l d) := SM.get (tbl := (tbproviders13_walk d l xb m1 w.heap.size cu au)) (k := .own (w.heap.size) ((provL l d))) (by kernel_rfl) h4
    clear hall h7 h8 h9 h10 h11 h12 h13 h14 h15 h16 h4
    simp only [EndsP]
    go_simp
    go_wp2_with fail
    go_ret
    exact ⟨⟨u4, rfl, hfin⟩, HK.out.trans hC (fun _ _ h => h)⟩
def tbnamed13_walk (d : De) (l : List Pk) (xb m1 h0 cu : Nat) (au : Option Addr) : List KdM := [.lit (.func (.func 63) #[] #[.pointer (some ⟨h0, 0, none⟩), .pointer (some ⟨h0 + 1, 0, none⟩)]), .lit (.pointer (some ⟨xb, 0, none⟩)), .lit (.pointer (some ⟨xb, 0, none⟩)), .lit (.pointer (some ⟨xb, 1, none⟩)), .lit (.map (some m1)), .lit (.pointer (some ⟨h0 + 1, 0, none⟩)), .lit (.string d.nm), .lit (.slice au (evI d.nm (evF namesP 0 l)).length cu), .lst ([(.slice au (evI d.nm (evF namesP 0 l)).length cu, (evI d.nm (evF namesP 0 l)))]), .own (h0) ((namedL l d)), .own (h0) ((namedL l d))]
set_option maxRecDepth 100000 in
set_option maxHeartbeats 16000000 in
theorem named13_walk {lo : Nat} {w : World} {xb : Nat} {l : List Pk} (hI : IS lo w xb l) (hok : ∀ p ∈ l, PkFits p) (hl : l.length < 1000000) (hE : (evF namesP 0 l).length < 1000000) (d : De) (hd : fitsDe d) :
    Calls Tryz.prog 34 #[.pointer (some ⟨xb, 0, none⟩), .agg #[.string d.nm, .int .u8 (d.o : Int), .int .i64 d.n, .string d.v, .string d.r]] w fun e w' => (∃ v, e = .returned v ∧ w'.ownsInts w.heap.size 3 .i64 v (namedL l d)) ∧ Kept (fun _ => False) w w' := by
  have hk1 := (Kept.refl (fun _ => False) w).alloc (.cells #[.pointer (some ⟨xb, 0, none⟩)] 63)
  have hk2 := hk1.alloc (.cells #[.string d.nm, .int .u8 (d.o : Int), .int .i64 d.n, .string d.v, .string d.r] 60)
  have HX := Lib.hid ((Box.made w 63 #[.pointer (some ⟨xb, 0, none⟩)]).after_alloc (.cells #[.string d.nm, .int .u8 (d.o : Int), .int .i64 d.n, .string d.v, .string d.r] 60))
  have hD0 := Box.made (w.alloc (.cells #[.pointer (some ⟨xb, 0, none⟩)] 63)) 60 #[.string d.nm, .int .u8 (d.o : Int), .int .i64 d.n, .string d.v, .string d.r]
  rw [World.size_alloc] at hD0
  have HD := Lib.hid hD0
  have hdn : d.nm.size ≤ maxLen := by have := hd.1; unfold maxLen; omega
  obtain ⟨a, c, m1, m2, au, cu, hb, hu, hlk⟩ := (hI.quiet hk2).look1 hE hdn
  have hle : (evI d.nm (evF namesP 0 l)).length < 1000000 := Nat.lt_of_le_of_lt (evI_len _ _) hE
  have HI := Lib.hid (hI.quiet hk2)
  have HB := Lib.hid hb
  have HU := Lib.hid hu
  have HL := Lib.hid hlk
  have HE := Lib.hid hle
  have HLL := Lib.hid hl
  have HK := Lib.hid hk2
  have HW := Lib.hid hk2.size
  have HOK := Lib.hid hok
  have HDO := Lib.hid (de_ok13 hd)
  have y0 := HX.out.cell 0
  clear hk1 hk2 hI hok hd hD0 hdn hb hu hlk hle hE hl
  go_enter Tryz.func34, Tryz.ntmps34
  go_wp2_with fail
  generalize ((w.alloc (.cells #[.pointer (some ⟨xb, 0, none⟩)] 63)).alloc (.cells #[.string d.nm, .int .u8 (d.o : Int), .int .i64 d.n, .string d.v, .string d.r] 60)) = w2 at HX HD HI HB HU HL HK HW y0 ⊢
  refine wp_region_inv (SM (tbnamed13_walk d l xb m1 w.heap.size cu au)) (fun w1 w2 => Kept (fun _ => False) w1 w2) (fun _ w' => Kept (fun _ => False) w2 w') (by kernel_rfl) (by kernel_rfl) (Kept.refl (fun _ => False) w2).drew (fun j w1 w2 v h hs => SM.kept (tbnamed13_walk d l xb m1 w.heap.size cu au) j w1 w2 v h hs) ⟨OpOK.plain rfl ?r0, OpOK.plain rfl ?r1, OpOK.plain rfl ?r2, OpOK.plain rfl ?r3, OpOK.plain rfl ?r4, OpOK.plain rfl ?r5, OpOK.plain rfl ?r6, OpOK.plain rfl ?r7, OpOK.plain rfl ?r8, OpOK.plain rfl ?r9, OpOK.plain rfl ?r10, trivial⟩ ?rend
  case r0 =>
    intro ls a wz hC hz hnew hwait hs hd K hK
    obtain ⟨t2, t2'⟩ := tmp_both (hs 2 _ (by kernel_rfl) rfl)
    obtain ⟨t3, t3'⟩ := tmp_both (hs 3 _ (by kernel_rfl) rfl)
    clear hs hd
    go_simp
    exact hK _ _ (Kept.refl (fun _ => False) wz) hC (fun _ => SM.pl (by kernel_rfl))
  case r1 =>
    intro ls a wz hC hz hnew hwait hs hd K hK
    obtain ⟨t2, t2'⟩ := tmp_both (hs 2 _ (by kernel_rfl) rfl)
    have kx := (hC.box HX.out (fun h => h)).cell 0
    clear hs hd
    go_simp
    exact hK _ _ (Kept.refl (fun _ => False) wz) hC (fun _ => SM.pl (by kernel_rfl))
  case r2 =>
    intro ls a wz hC hz hnew hwait hs hd K hK
    obtain ⟨d1, d1'⟩ := SM.lt (.pointer (some ⟨xb, 0, none⟩)) (hd 1 8 (by kernel_rfl) (by kernel_rfl)) (by kernel_rfl)
    clear hs hd
    go_simp
    exact hK _ _ (Kept.refl (fun _ => False) wz) hC (fun _ => SM.pl (by kernel_rfl))
  case r3 =>
    intro ls a wz hC hz hnew hwait hs hd K hK
    obtain ⟨d2, d2'⟩ := SM.lt (.pointer (some ⟨xb, 0, none⟩)) (hd 2 9 (by kernel_rfl) (by kernel_rfl)) (by kernel_rfl)
    clear hs hd
    go_simp
    exact hK _ _ (Kept.refl (fun _ => False) wz) hC (fun _ => SM.pl (by kernel_rfl))
  case r4 =>
    intro ls a wz hC hz hnew hwait hs hd K hK
    obtain ⟨d3, d3'⟩ := SM.lt (.pointer (some ⟨xb, 1, none⟩)) (hd 3 10 (by kernel_rfl) (by kernel_rfl)) (by kernel_rfl)
    have km := (hC.box HB.out (fun h => h)).cell 1
    clear hs hd
    go_simp
    exact hK _ _ (Kept.refl (fun _ => False) wz) hC (fun _ => SM.pl (by kernel_rfl))
  case r5 =>
    intro ls a wz hC hz hnew hwait hs hd K hK
    obtain ⟨t3, t3'⟩ := tmp_both (hs 3 _ (by kernel_rfl) rfl)
    clear hs hd
    go_simp
    exact hK _ _ (Kept.refl (fun _ => False) wz) hC (fun _ => SM.pl (by kernel_rfl))
  case r6 =>
    intro ls a wz hC hz hnew hwait hs hd K hK
    obtain ⟨d5, d5'⟩ := SM.lt (.pointer (some ⟨w.heap.size + 1, 0, none⟩)) (hd 5 12 (by kernel_rfl) (by kernel_rfl)) (by kernel_rfl)
    have kn := (hC.box HD.out (fun h => h)).cell 0
    clear hs hd
    go_simp
    exact hK _ _ (Kept.refl (fun _ => False) wz) hC (fun _ => SM.pl (by kernel_rfl))
  case r7 =>
    intro ls a wz hC hz hnew hwait hs hd K hK
    obtain ⟨d4, d4'⟩ := SM.lt (.map (some m1)) (hd 4 11 (by kernel_rfl) (by kernel_rfl)) (by kernel_rfl)
    obtain ⟨d6, d6'⟩ := SM.lt (.string d.nm) (hd 6 13 (by kernel_rfl) (by kernel_rfl)) (by kernel_rfl)
    clear hs hd
    refine oper_lookup (.tmp 11) (.tmp 13) 77 14 rfl rfl d4 d6 (HL.out wz hC) ?_
    exact hK _ _ (Kept.refl _ _) hC (fun _ => SM.mk (tbl := (tbnamed13_walk d l xb m1 w.heap.size cu au)) (k := .lit (.slice au (evI d.nm (evF namesP 0 l)).length cu)) (by kernel_rfl) rfl)
  case r8 =>
    intro ls a wz hC hz hnew hwait hs hd K hK
    obtain ⟨d7, d7'⟩ := SM.lt (.slice au (evI d.nm (evF namesP 0 l)).length cu) (hd 7 14 (by kernel_rfl) (by kernel_rfl)) (by kernel_rfl)
    have hui := HU.out.kept hC
    clear hs hd
    go_simp
    exact hK _ _ ((Kept.refl (fun _ => False) wz).alloc _) (hC.alloc _) (fun _ => SM.mk (tbl := (tbnamed13_walk d l xb m1 w.heap.size cu au)) (k := .lst [(.slice au (evI d.nm (evF namesP 0 l)).length cu, (evI d.nm (evF namesP 0 l)))]) (by kernel_rfl) (lst_one hui))
  case r9 =>
    intro ls a wz hC hz hnew hwait hs hd K hK
    obtain ⟨d0, d0'⟩ := SM.lt (.func (.func 63) #[] #[.pointer (some ⟨w.heap.size, 0, none⟩), .pointer (some ⟨w.heap.size + 1, 0, none⟩)]) (hd 0 7 (by kernel_rfl) (by kernel_rfl)) (by kernel_rfl)
    obtain ⟨v8, d8, hv8⟩ := hd 8 15 (by kernel_rfl) (by kernel_rfl)
    have hq8 : LstS wz v8 ([(.slice au (evI d.nm (evF namesP 0 l)).length cu, (evI d.nm (evF namesP 0 l)))]) := SM.get (k := .lst ([(.slice au (evI d.nm (evF namesP 0 l)).length cu, (evI d.nm (evF namesP 0 l)))])) (by kernel_rfl) hv8
    obtain ⟨ao8, cp8, e8, hc8⟩ := id hq8
    subst e8
    obtain ⟨-, d8'⟩ := tmp_both d8
    clear hv8
    clear hs hd
    go_simp
    refine (which13_walk 63 #[.pointer (some ⟨w.heap.size, 0, none⟩), .pointer (some ⟨w.heap.size + 1, 0, none⟩)] (fun _ _ => by kernel_rfl) (onI fun i => l[i]?.any fun p => namedP p d) [(.slice au (evI d.nm (evF namesP 0 l)).length cu, (evI d.nm (evF namesP 0 l)))] _ wz hq8 (fun u hu z hz => ?wf) (by simp) (by simpa [flatL] using HE.out) (fun x hx W hk => ?cl)).mono ?_
    case wf =>
      obtain rfl : u = (.slice au (evI d.nm (evF namesP 0 l)).length cu, (evI d.nm (evF namesP 0 l))) := by simpa using hu
      obtain ⟨i, rfl, hi⟩ := evI_small z hz
      exact wf_small13 (by have := HLL.out; omega)
    case cl =>
      have hx' : x ∈ (evI d.nm (evF namesP 0 l)) := by simpa [flatL] using hx
      obtain ⟨i, p, rfl, hp, _⟩ := evI_mem.1 hx'
      have hkW := hC.trans hk (fun _ _ h => h)
      have h := named1_walk (HI.out.quiet hkW) HOK.out d HDO.out i p hp w.heap.size (w.heap.size + 1) (hkW.box HX.out (fun h => h)) (hkW.box HD.out (fun h => h))
      simpa [onI, hp] using h
    rintro e wv ⟨⟨v', rfl, ho⟩, hkv⟩
    have ho' : wv.ownsInts w.heap.size 3 .i64 v' (namedL l d) := by
      have h := own_less13 ho (b := w.heap.size) (Nat.le_trans HW.out hC.size)
      have e1 : flatL [(.slice au (evI d.nm (evF namesP 0 l)).length cu, (evI d.nm (evF namesP 0 l)))] = (evI d.nm (evF namesP 0 l)) := by simp [flatL]
      rw [e1, named_nums] at h
      exact h
    exact hK _ _ hkv (hC.trans hkv (fun _ _ h => h)) (fun _ => SM.mk (tbl := (tbnamed13_walk d l xb m1 w.heap.size cu au)) (k := .own (w.heap.size) ((namedL l d))) (by kernel_rfl) ho')
  case r10 =>
    intro ls a wz hC hz hnew hwait hs hd K hK
    obtain ⟨v9, d9, hv9⟩ := hd 9 16 (by kernel_rfl) (by kernel_rfl)
    have hq9 : wz.ownsInts (w.heap.size) 3 .i64 v9 ((namedL l d)) := SM.get (k := .own (w.heap.size) ((namedL l d))) (by kernel_rfl) hv9
    obtain ⟨ao9, cp9, e9⟩ := own_form hq9.1
    subst e9
    obtain ⟨-, d9'⟩ := tmp_both d9
    clear hv9
    clear hs hd
    go_simp
    exact hK _ _ (Kept.refl (fun _ => False) wz) hC (fun _ => SM.mk (tbl := (tbnamed13_walk d l xb m1 w.heap.size cu au)) (k := .own (w.heap.size) ((namedL l d))) (by kernel_rfl) hq9)
  case rend =>
    intro ls wz hall hC
    intro u7 h7
    intro u8 h8
    intro u9 h9
    intro u10 h10
    intro u11 h11
    intro u12 h12
    intro u13 h13
    intro u14 h14
    intro u15 h15
    intro u16 h16
    intro u4 h4
    have hfin : wz.ownsInts w.heap.size 3 .i64 u4 (namedL l d) := SM.get (tbl := (tbnamed13_walk d l xb m1 w.heap.size cu au)) (k := .own (w.heap.size) ((namedL l d))) (by kernel_rfl) h4
    clear hall h7 h8 h9 h10 h11 h12 h13 h14 h15 h16 h4
    simp only [EndsP]
    go_simp
    go_wp2_with fail
    go_ret
    exact ⟨⟨u4, rfl, hfin⟩, HK.out.trans hC (fun _ _ h => h)⟩
end Go.Proofs.YtpdoeapjdifmbaaGreatDoor
