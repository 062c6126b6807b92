/-
  The law MatchEach (layer 13). Conditions: as each theorem states.
-/
import Derived.Test.YthjllgfceookcaaGreatDoorK28
import Derived.Test.YthjllgfceookcaaGreatDoorK38
namespace Go.Proofs.YthjllgfceookcaaGreatDoor
open Go.RowKit Ver Evr Span Dep Rich
attribute [local go_sem ↓] execOp_loadPq

theorem n0_fits {d : De} (h : fitsDe d) : fitsDe (e13 d.nm 0 ⟨#[]⟩) := ⟨h.1, show 0 < 256 by decide, show (⟨#[]⟩ : ByteArray).size < 140737488355328 by decide, show (⟨#[]⟩ : ByteArray).size < 140737488355328 by decide⟩
theorem meets_n0 {a d : De} (h : a.nm = d.nm) : meetsB a (e13 d.nm 0 ⟨#[]⟩) = true := by
  unfold meetsB
  rw [Bool.and_eq_true]
  exact ⟨decide_eq_true h, by simp [meetO, e13]⟩
theorem named_n0 {p : Pk} {d : De} (h : namedP p d = true) : namedP p (e13 d.nm 0 ⟨#[]⟩) = true := meets_n0 (named_name h).symm
theorem prov_n0 {p : Pk} {d : De} (h : provP p d = true) : provP p (e13 d.nm 0 ⟨#[]⟩) = true := by
  unfold provP provB at h ⊢
  rw [Bool.or_eq_true, Bool.or_eq_true, Bool.and_eq_true] at h ⊢
  rcases h with (h | h) | h
  · exact .inl (.inl (named_n0 (p := p) h))
  · obtain ⟨e, he, hm⟩ := List.any_eq_true.1 h
    exact .inl (.inr (List.any_eq_true.2 ⟨e, he, meets_n0 (meets_name hm)⟩))
  · exact .inr ⟨rfl, h.2⟩
theorem in_num13 {f : Nat → Bool} {n i : Nat} (h : i < n) : decide ((i : Int) ∈ numL f n) = f i := by
  cases hf : f i with
  | true => exact decide_eq_true (numL_mem.2 ⟨i, rfl, h, hf⟩)
  | false =>
    refine decide_eq_false fun hm => ?_
    obtain ⟨j, e, _, h2⟩ := numL_mem.1 hm
    obtain rfl : i = j := by omega
    rw [hf] at h2
    cases h2
/-- How many of those below n meet it. -/
def metN (f : Nat → Bool) (n : Nat) : Nat := ((List.range n).filter f).length
theorem metN_succ (f : Nat → Bool) (n : Nat) : metN f (n + 1) = metN f n + (if f n = true then 1 else 0) := by
  unfold metN
  rw [List.range_succ, List.filter_append, List.length_append]
  cases h : f n <;> simp [h]
theorem metN_le (f : Nat → Bool) (n : Nat) : metN f n ≤ n := by
  unfold metN
  exact Nat.le_trans (List.length_filter_le _ _) (by simp)
theorem numL_len (f : Nat → Bool) (n : Nat) : (numL f n).length = metN f n := by
  unfold numL metN
  rw [List.length_map]
set_option maxRecDepth 100000 in
set_option maxHeartbeats 16000000 in
theorem matcheach_walk (l : List Rp) (I : List Pk) (rv iv : Value) (d : De) (w : World) (hR : RpsS w rv l) (hI : PksS w iv I) (hF : LrgF l I) (hO : ∀ p, (p ∈ I ∨ ∃ r ∈ l, p ∈ r.2) → PkFits p) (hd : fitsDe d) (hW : PkW w) :
    Calls Tryz.prog 7 #[rv, iv, .agg #[.string d.nm, .int .u8 (d.o : Int), .int .i64 d.n, .string d.v, .string d.r]] w fun e w' => e = .returned (.bool true) ∧ Kept (fun _ => False) w w' := by
  have hk0 := (Kept.refl (fun _ => False) w).alloc (.cells #[.string d.nm, .int .u8 (d.o : Int), .int .i64 d.n, .string d.v, .string d.r] 60)
  have HD0 := Lib.hid (Box.made w 60 #[.string d.nm, .int .u8 (d.o : Int), .int .i64 d.n, .string d.v, .string d.r])
  have HR := Lib.hid (hR.kept hk0)
  have HIV := Lib.hid (hI.kept hk0)
  have HW := Lib.hid (hW.kept hk0)
  have HK0 := Lib.hid hk0
  have HLF := Lib.hid hF
  have HO := Lib.hid hO
  have HDF := Lib.hid hd
  clear hR hI hW hk0 hF hO hd
  go_enter Tryz.func7, Tryz.ntmps7
  go_wp2_with fail
  generalize (w.alloc (.cells #[.string d.nm, .int .u8 (d.o : Int), .int .i64 d.n, .string d.v, .string d.r] 60)) = w0 at HD0 HR HIV HW HK0 ⊢
  obtain ⟨gd, hgd⟩ : ∃ g, g = w.heap.size := ⟨_, rfl⟩
  try rw [← hgd] at HD0
  try rw [← hgd]
  clear hgd
  refine (works13_walk _ HW.out).mono ?_
  rintro e w1 ⟨rfl, hk1⟩
  have HK1 := Lib.hid hk1
  clear hk1
  go_wp2_with fail
  refine (large13_walk l I rv iv w1 (HR.out.kept HK1.out) (HIV.out.kept HK1.out) HLF.out HO.out).mono ?_
  rintro e w2 ⟨⟨y, rfl⟩, hk2⟩
  have HK2 := Lib.hid (HK1.out.trans hk2 (fun _ _ h => h))
  clear hk2
  cases y with
  | true =>
    go_wp2_with fail
    refine (works13_walk _ (HW.out.kept HK2.out)).mono ?_
    rintro e w3 ⟨rfl, hk3⟩
    go_wp2_with fail
    go_ret
    exact ⟨rfl, (HK0.out.trans HK2.out (fun _ _ h => h)).trans hk3 (fun _ _ h => h)⟩
  | false =>
    go_wp2_with fail
    refine (of13_walk l I rv iv w2 (HR.out.kept HK2.out) (HIV.out.kept HK2.out) HLF.out HO.out (HW.out.kept HK2.out)).mono ?_
    rintro e w4 ⟨hk4, ⟨_, rfl⟩ | ⟨xb, pb, rfl, _, hok, hP, lo, hI⟩⟩
    · have HK4 := Lib.hid hk4
      clear hk4
      go_wp2_with fail
      go_ret
      exact ⟨rfl, (HK0.out.trans HK2.out (fun _ _ h => h)).trans HK4.out (fun _ _ h => h)⟩
    have HI := Lib.hid hI
    have HP := Lib.hid (show ∃ lo, PoolS lo w4 pb (I.length : Int) (itemsN I l) from ⟨_, hP⟩)
    have HOK := Lib.hid hok
    have HKW := Lib.hid ((HK0.out.trans HK2.out (fun _ _ h => h)).trans hk4 (fun _ _ h => h))
    have HD := Lib.hid ((HK2.out.trans hk4 (fun _ _ h => h)).box HD0.out (fun h => h))
    have HLN := Lib.hid (show (pksN I l).length < 1000000 by have := hok.few; omega)
    have HE1 := Lib.hid (show (evF namesP 0 (pksN I l)).length < 1000000 by have := hok.e1; omega)
    clear hI hP hok hk4 HD0 HR HIV HW HK0 HLF HO HK1 HK2
    obtain ⟨lp, hP'⟩ := HP.out
    clear HP
    have HP := Lib.hid hP'
    have HSZ := Lib.hid (Nat.le_refl w4.heap.size)
    clear hP'
    go_wp2_with fail
    refine wp_region_inv (SM [.lit (.pointer (some ⟨xb, 0, none⟩)), .lit (.agg #[.string d.nm, .int .u8 (d.o : Int), .int .i64 d.n, .string d.v, .string d.r]), .own (w4.heap.size) ((provL (pksN I l) d)), .lit (.pointer (some ⟨xb, 0, none⟩)), .lit (.agg #[.string d.nm, .int .u8 (d.o : Int), .int .i64 d.n, .string d.v, .string d.r]), .own (w4.heap.size) ((namedL (pksN I l) d)), .own (w4.heap.size) ((provL (pksN I l) d)), .own (w4.heap.size) ((namedL (pksN I l) d))]) (fun w1 w2 => Kept (fun _ => False) w1 w2) (fun _ w' => Kept (fun _ => False) w4 w') (by kernel_rfl) (by kernel_rfl) (Kept.refl (fun _ => False) w4).drew (fun j w1 w2 v h hs => SM.kept [.lit (.pointer (some ⟨xb, 0, none⟩)), .lit (.agg #[.string d.nm, .int .u8 (d.o : Int), .int .i64 d.n, .string d.v, .string d.r]), .own (w4.heap.size) ((provL (pksN I l) d)), .lit (.pointer (some ⟨xb, 0, none⟩)), .lit (.agg #[.string d.nm, .int .u8 (d.o : Int), .int .i64 d.n, .string d.v, .string d.r]), .own (w4.heap.size) ((namedL (pksN I l) d)), .own (w4.heap.size) ((provL (pksN I l) d)), .own (w4.heap.size) ((namedL (pksN I l) d))] j w1 w2 v h hs) ⟨OpOK.plain rfl ?r0, OpOK.plain rfl ?r1, OpOK.plain rfl ?r2, OpOK.plain rfl ?r3, OpOK.plain rfl ?r4, OpOK.plain rfl ?r5, OpOK.plain rfl ?r6, OpOK.plain rfl ?r7, trivial⟩ ?rend
    case r0 =>
      intro ls a wz hC hz hnew hwait hs hd K hK
      have t7 := hs 7 _ (by kernel_rfl) rfl
      have t7' := t7
      rw [Array.getD_eq_getD_getElem?] at t7'
      clear hs hd
      go_simp
      exact hK _ _ (Kept.refl (fun _ => False) wz) hC (fun _ => SM.mk (tbl := [.lit (.pointer (some ⟨xb, 0, none⟩)), .lit (.agg #[.string d.nm, .int .u8 (d.o : Int), .int .i64 d.n, .string d.v, .string d.r]), .own (w4.heap.size) ((provL (pksN I l) d)), .lit (.pointer (some ⟨xb, 0, none⟩)), .lit (.agg #[.string d.nm, .int .u8 (d.o : Int), .int .i64 d.n, .string d.v, .string d.r]), .own (w4.heap.size) ((namedL (pksN I l) d)), .own (w4.heap.size) ((provL (pksN I l) d)), .own (w4.heap.size) ((namedL (pksN I l) d))]) (k := .lit (.pointer (some ⟨xb, 0, none⟩))) (by kernel_rfl) rfl)
    case r1 =>
      intro ls a wz hC hz hnew hwait hs hd K hK
      have t5 := hs 5 _ (by kernel_rfl) rfl
      have t5' := t5
      rw [Array.getD_eq_getD_getElem?] at t5'
      have hbd := hC.box HD.out (fun h => h)
      have kd0 := hbd.cell 0
      have kd1 := hbd.cell 1
      have kd2 := hbd.cell 2
      have kd3 := hbd.cell 3
      have kd4 := hbd.cell 4
      clear hs hd
      go_simp
      exact hK _ _ (Kept.refl (fun _ => False) wz) hC (fun _ => SM.mk (tbl := [.lit (.pointer (some ⟨xb, 0, none⟩)), .lit (.agg #[.string d.nm, .int .u8 (d.o : Int), .int .i64 d.n, .string d.v, .string d.r]), .own (w4.heap.size) ((provL (pksN I l) d)), .lit (.pointer (some ⟨xb, 0, none⟩)), .lit (.agg #[.string d.nm, .int .u8 (d.o : Int), .int .i64 d.n, .string d.v, .string d.r]), .own (w4.heap.size) ((namedL (pksN I l) d)), .own (w4.heap.size) ((provL (pksN I l) d)), .own (w4.heap.size) ((namedL (pksN I l) d))]) (k := .lit (.agg #[.string d.nm, .int .u8 (d.o : Int), .int .i64 d.n, .string d.v, .string d.r])) (by kernel_rfl) rfl)
    case r2 =>
      intro ls a wz hC hz hnew hwait hs hd K hK
      have d0 : a.tmps.getD 38 undef = .pointer (some ⟨xb, 0, none⟩) := by
        obtain ⟨u, hu, hv⟩ := hd 0 38 (by kernel_rfl) (by kernel_rfl)
        rw [hu]; exact SM.get (tbl := [.lit (.pointer (some ⟨xb, 0, none⟩)), .lit (.agg #[.string d.nm, .int .u8 (d.o : Int), .int .i64 d.n, .string d.v, .string d.r]), .own (w4.heap.size) ((provL (pksN I l) d)), .lit (.pointer (some ⟨xb, 0, none⟩)), .lit (.agg #[.string d.nm, .int .u8 (d.o : Int), .int .i64 d.n, .string d.v, .string d.r]), .own (w4.heap.size) ((namedL (pksN I l) d)), .own (w4.heap.size) ((provL (pksN I l) d)), .own (w4.heap.size) ((namedL (pksN I l) d))]) (k := .lit (.pointer (some ⟨xb, 0, none⟩))) (by kernel_rfl) hv
      have d0' : a.tmps[38]?.getD undef = .pointer (some ⟨xb, 0, none⟩) := by rw [← Array.getD_eq_getD_getElem?]; exact d0
      have d1 : a.tmps.getD 39 undef = .agg #[.string d.nm, .int .u8 (d.o : Int), .int .i64 d.n, .string d.v, .string d.r] := by
        obtain ⟨u, hu, hv⟩ := hd 1 39 (by kernel_rfl) (by kernel_rfl)
        rw [hu]; exact SM.get (tbl := [.lit (.pointer (some ⟨xb, 0, none⟩)), .lit (.agg #[.string d.nm, .int .u8 (d.o : Int), .int .i64 d.n, .string d.v, .string d.r]), .own (w4.heap.size) ((provL (pksN I l) d)), .lit (.pointer (some ⟨xb, 0, none⟩)), .lit (.agg #[.string d.nm, .int .u8 (d.o : Int), .int .i64 d.n, .string d.v, .string d.r]), .own (w4.heap.size) ((namedL (pksN I l) d)), .own (w4.heap.size) ((provL (pksN I l) d)), .own (w4.heap.size) ((namedL (pksN I l) d))]) (k := .lit (.agg #[.string d.nm, .int .u8 (d.o : Int), .int .i64 d.n, .string d.v, .string d.r])) (by kernel_rfl) hv
      have d1' : a.tmps[39]?.getD undef = .agg #[.string d.nm, .int .u8 (d.o : Int), .int .i64 d.n, .string d.v, .string d.r] := by rw [← Array.getD_eq_getD_getElem?]; exact d1
      clear hs hd
      go_simp
      refine (providers13_walk (HI.out.quiet hC) HOK.out.fits HLN.out HE1.out d HDF.out).mono ?_
      rintro e wv ⟨⟨v', rfl, ho⟩, hkv⟩
      have ho' := own_less13 ho (b := w4.heap.size) (Nat.le_trans HSZ.out hC.size)
      exact hK _ _ hkv (hC.trans hkv (fun _ _ h => h)) (fun _ => SM.mk (tbl := [.lit (.pointer (some ⟨xb, 0, none⟩)), .lit (.agg #[.string d.nm, .int .u8 (d.o : Int), .int .i64 d.n, .string d.v, .string d.r]), .own (w4.heap.size) ((provL (pksN I l) d)), .lit (.pointer (some ⟨xb, 0, none⟩)), .lit (.agg #[.string d.nm, .int .u8 (d.o : Int), .int .i64 d.n, .string d.v, .string d.r]), .own (w4.heap.size) ((namedL (pksN I l) d)), .own (w4.heap.size) ((provL (pksN I l) d)), .own (w4.heap.size) ((namedL (pksN I l) d))]) (k := .own (w4.heap.size) ((provL (pksN I l) d))) (by kernel_rfl) ho')
    case r3 =>
      intro ls a wz hC hz hnew hwait hs hd K hK
      have t7 := hs 7 _ (by kernel_rfl) rfl
      have t7' := t7
      rw [Array.getD_eq_getD_getElem?] at t7'
      clear hs hd
      go_simp
      exact hK _ _ (Kept.refl (fun _ => False) wz) hC (fun _ => SM.mk (tbl := [.lit (.pointer (some ⟨xb, 0, none⟩)), .lit (.agg #[.string d.nm, .int .u8 (d.o : Int), .int .i64 d.n, .string d.v, .string d.r]), .own (w4.heap.size) ((provL (pksN I l) d)), .lit (.pointer (some ⟨xb, 0, none⟩)), .lit (.agg #[.string d.nm, .int .u8 (d.o : Int), .int .i64 d.n, .string d.v, .string d.r]), .own (w4.heap.size) ((namedL (pksN I l) d)), .own (w4.heap.size) ((provL (pksN I l) d)), .own (w4.heap.size) ((namedL (pksN I l) d))]) (k := .lit (.pointer (some ⟨xb, 0, none⟩))) (by kernel_rfl) rfl)
    case r4 =>
      intro ls a wz hC hz hnew hwait hs hd K hK
      have t5 := hs 5 _ (by kernel_rfl) rfl
      have t5' := t5
      rw [Array.getD_eq_getD_getElem?] at t5'
      have hbd := hC.box HD.out (fun h => h)
      have kd0 := hbd.cell 0
      have kd1 := hbd.cell 1
      have kd2 := hbd.cell 2
      have kd3 := hbd.cell 3
      have kd4 := hbd.cell 4
      clear hs hd
      go_simp
      exact hK _ _ (Kept.refl (fun _ => False) wz) hC (fun _ => SM.mk (tbl := [.lit (.pointer (some ⟨xb, 0, none⟩)), .lit (.agg #[.string d.nm, .int .u8 (d.o : Int), .int .i64 d.n, .string d.v, .string d.r]), .own (w4.heap.size) ((provL (pksN I l) d)), .lit (.pointer (some ⟨xb, 0, none⟩)), .lit (.agg #[.string d.nm, .int .u8 (d.o : Int), .int .i64 d.n, .string d.v, .string d.r]), .own (w4.heap.size) ((namedL (pksN I l) d)), .own (w4.heap.size) ((provL (pksN I l) d)), .own (w4.heap.size) ((namedL (pksN I l) d))]) (k := .lit (.agg #[.string d.nm, .int .u8 (d.o : Int), .int .i64 d.n, .string d.v, .string d.r])) (by kernel_rfl) rfl)
    case r5 =>
      intro ls a wz hC hz hnew hwait hs hd K hK
      have d3 : a.tmps.getD 41 undef = .pointer (some ⟨xb, 0, none⟩) := by
        obtain ⟨u, hu, hv⟩ := hd 3 41 (by kernel_rfl) (by kernel_rfl)
        rw [hu]; exact SM.get (tbl := [.lit (.pointer (some ⟨xb, 0, none⟩)), .lit (.agg #[.string d.nm, .int .u8 (d.o : Int), .int .i64 d.n, .string d.v, .string d.r]), .own (w4.heap.size) ((provL (pksN I l) d)), .lit (.pointer (some ⟨xb, 0, none⟩)), .lit (.agg #[.string d.nm, .int .u8 (d.o : Int), .int .i64 d.n, .string d.v, .string d.r]), .own (w4.heap.size) ((namedL (pksN I l) d)), .own (w4.heap.size) ((provL (pksN I l) d)), .own (w4.heap.size) ((namedL (pksN I l) d))]) (k := .lit (.pointer (some ⟨xb, 0, none⟩))) (by kernel_rfl) hv
      have d3' : a.tmps[41]?.getD undef = .pointer (some ⟨xb, 0, none⟩) := by rw [← Array.getD_eq_getD_getElem?]; exact d3
      have d4 : a.tmps.getD 42 undef = .agg #[.string d.nm, .int .u8 (d.o : Int), .int .i64 d.n, .string d.v, .string d.r] := by
        obtain ⟨u, hu, hv⟩ := hd 4 42 (by kernel_rfl) (by kernel_rfl)
        rw [hu]; exact SM.get (tbl := [.lit (.pointer (some ⟨xb, 0, none⟩)), .lit (.agg #[.string d.nm, .int .u8 (d.o : Int), .int .i64 d.n, .string d.v, .string d.r]), .own (w4.heap.size) ((provL (pksN I l) d)), .lit (.pointer (some ⟨xb, 0, none⟩)), .lit (.agg #[.string d.nm, .int .u8 (d.o : Int), .int .i64 d.n, .string d.v, .string d.r]), .own (w4.heap.size) ((namedL (pksN I l) d)), .own (w4.heap.size) ((provL (pksN I l) d)), .own (w4.heap.size) ((namedL (pksN I l) d))]) (k := .lit (.agg #[.string d.nm, .int .u8 (d.o : Int), .int .i64 d.n, .string d.v, .string d.r])) (by kernel_rfl) hv
      have d4' : a.tmps[42]?.getD undef = .agg #[.string d.nm, .int .u8 (d.o : Int), .int .i64 d.n, .string d.v, .string d.r] := by rw [← Array.getD_eq_getD_getElem?]; exact d4
      clear hs hd
      go_simp
      refine (named13_walk (HI.out.quiet hC) HOK.out.fits HLN.out HE1.out d HDF.out).mono ?_
      rintro e wv ⟨⟨v', rfl, ho⟩, hkv⟩
      have ho' := own_less13 ho (b := w4.heap.size) (Nat.le_trans HSZ.out hC.size)
      exact hK _ _ hkv (hC.trans hkv (fun _ _ h => h)) (fun _ => SM.mk (tbl := [.lit (.pointer (some ⟨xb, 0, none⟩)), .lit (.agg #[.string d.nm, .int .u8 (d.o : Int), .int .i64 d.n, .string d.v, .string d.r]), .own (w4.heap.size) ((provL (pksN I l) d)), .lit (.pointer (some ⟨xb, 0, none⟩)), .lit (.agg #[.string d.nm, .int .u8 (d.o : Int), .int .i64 d.n, .string d.v, .string d.r]), .own (w4.heap.size) ((namedL (pksN I l) d)), .own (w4.heap.size) ((provL (pksN I l) d)), .own (w4.heap.size) ((namedL (pksN I l) d))]) (k := .own (w4.heap.size) ((namedL (pksN I l) d))) (by kernel_rfl) ho')
    case r6 =>
      intro ls a wz hC hz hnew hwait hs hd K hK
      obtain ⟨v2, d2, hv2⟩ := hd 2 40 (by kernel_rfl) (by kernel_rfl)
      have hq2 : wz.ownsInts (w4.heap.size) 3 .i64 v2 ((provL (pksN I l) d)) := SM.get (tbl := [.lit (.pointer (some ⟨xb, 0, none⟩)), .lit (.agg #[.string d.nm, .int .u8 (d.o : Int), .int .i64 d.n, .string d.v, .string d.r]), .own (w4.heap.size) ((provL (pksN I l) d)), .lit (.pointer (some ⟨xb, 0, none⟩)), .lit (.agg #[.string d.nm, .int .u8 (d.o : Int), .int .i64 d.n, .string d.v, .string d.r]), .own (w4.heap.size) ((namedL (pksN I l) d)), .own (w4.heap.size) ((provL (pksN I l) d)), .own (w4.heap.size) ((namedL (pksN I l) d))]) (k := .own (w4.heap.size) ((provL (pksN I l) d))) (by kernel_rfl) hv2
      obtain ⟨ao2, cp2, e2⟩ := own_form hq2.1
      subst e2
      have d2' := d2
      rw [Array.getD_eq_getD_getElem?] at d2'
      clear hv2
      clear hs hd
      go_simp
      exact hK _ _ (Kept.refl (fun _ => False) wz) hC (fun _ => SM.mk (tbl := [.lit (.pointer (some ⟨xb, 0, none⟩)), .lit (.agg #[.string d.nm, .int .u8 (d.o : Int), .int .i64 d.n, .string d.v, .string d.r]), .own (w4.heap.size) ((provL (pksN I l) d)), .lit (.pointer (some ⟨xb, 0, none⟩)), .lit (.agg #[.string d.nm, .int .u8 (d.o : Int), .int .i64 d.n, .string d.v, .string d.r]), .own (w4.heap.size) ((namedL (pksN I l) d)), .own (w4.heap.size) ((provL (pksN I l) d)), .own (w4.heap.size) ((namedL (pksN I l) d))]) (k := .own (w4.heap.size) ((provL (pksN I l) d))) (by kernel_rfl) hq2)
    case r7 =>
      intro ls a wz hC hz hnew hwait hs hd K hK
      obtain ⟨v5, d5, hv5⟩ := hd 5 43 (by kernel_rfl) (by kernel_rfl)
      have hq5 : wz.ownsInts (w4.heap.size) 3 .i64 v5 ((namedL (pksN I l) d)) := SM.get (tbl := [.lit (.pointer (some ⟨xb, 0, none⟩)), .lit (.agg #[.string d.nm, .int .u8 (d.o : Int), .int .i64 d.n, .string d.v, .string d.r]), .own (w4.heap.size) ((provL (pksN I l) d)), .lit (.pointer (some ⟨xb, 0, none⟩)), .lit (.agg #[.string d.nm, .int .u8 (d.o : Int), .int .i64 d.n, .string d.v, .string d.r]), .own (w4.heap.size) ((namedL (pksN I l) d)), .own (w4.heap.size) ((provL (pksN I l) d)), .own (w4.heap.size) ((namedL (pksN I l) d))]) (k := .own (w4.heap.size) ((namedL (pksN I l) d))) (by kernel_rfl) hv5
      obtain ⟨ao5, cp5, e5⟩ := own_form hq5.1
      subst e5
      have d5' := d5
      rw [Array.getD_eq_getD_getElem?] at d5'
      clear hv5
      clear hs hd
      go_simp
      exact hK _ _ (Kept.refl (fun _ => False) wz) hC (fun _ => SM.mk (tbl := [.lit (.pointer (some ⟨xb, 0, none⟩)), .lit (.agg #[.string d.nm, .int .u8 (d.o : Int), .int .i64 d.n, .string d.v, .string d.r]), .own (w4.heap.size) ((provL (pksN I l) d)), .lit (.pointer (some ⟨xb, 0, none⟩)), .lit (.agg #[.string d.nm, .int .u8 (d.o : Int), .int .i64 d.n, .string d.v, .string d.r]), .own (w4.heap.size) ((namedL (pksN I l) d)), .own (w4.heap.size) ((provL (pksN I l) d)), .own (w4.heap.size) ((namedL (pksN I l) d))]) (k := .own (w4.heap.size) ((namedL (pksN I l) d))) (by kernel_rfl) hq5)
    case rend =>
      intro ls w6 hall hC
      intro u38 h38
      intro u39 h39
      intro u40 h40
      intro u41 h41
      intro u42 h42
      intro u43 h43
      intro u10 h10
      intro u11 h11
      obtain ⟨aA, cA, eaA⟩ := own_form (SM.get (tbl := [.lit (.pointer (some ⟨xb, 0, none⟩)), .lit (.agg #[.string d.nm, .int .u8 (d.o : Int), .int .i64 d.n, .string d.v, .string d.r]), .own (w4.heap.size) ((provL (pksN I l) d)), .lit (.pointer (some ⟨xb, 0, none⟩)), .lit (.agg #[.string d.nm, .int .u8 (d.o : Int), .int .i64 d.n, .string d.v, .string d.r]), .own (w4.heap.size) ((namedL (pksN I l) d)), .own (w4.heap.size) ((provL (pksN I l) d)), .own (w4.heap.size) ((namedL (pksN I l) d))]) (k := .own (w4.heap.size) ((provL (pksN I l) d))) (by kernel_rfl) h10).1
      subst eaA
      have HA := Lib.hid (ints_of_own (SM.get (tbl := [.lit (.pointer (some ⟨xb, 0, none⟩)), .lit (.agg #[.string d.nm, .int .u8 (d.o : Int), .int .i64 d.n, .string d.v, .string d.r]), .own (w4.heap.size) ((provL (pksN I l) d)), .lit (.pointer (some ⟨xb, 0, none⟩)), .lit (.agg #[.string d.nm, .int .u8 (d.o : Int), .int .i64 d.n, .string d.v, .string d.r]), .own (w4.heap.size) ((namedL (pksN I l) d)), .own (w4.heap.size) ((provL (pksN I l) d)), .own (w4.heap.size) ((namedL (pksN I l) d))]) (k := .own (w4.heap.size) ((provL (pksN I l) d))) (by kernel_rfl) h10))
      obtain ⟨aB, cB, eaB⟩ := own_form (SM.get (tbl := [.lit (.pointer (some ⟨xb, 0, none⟩)), .lit (.agg #[.string d.nm, .int .u8 (d.o : Int), .int .i64 d.n, .string d.v, .string d.r]), .own (w4.heap.size) ((provL (pksN I l) d)), .lit (.pointer (some ⟨xb, 0, none⟩)), .lit (.agg #[.string d.nm, .int .u8 (d.o : Int), .int .i64 d.n, .string d.v, .string d.r]), .own (w4.heap.size) ((namedL (pksN I l) d)), .own (w4.heap.size) ((provL (pksN I l) d)), .own (w4.heap.size) ((namedL (pksN I l) d))]) (k := .own (w4.heap.size) ((namedL (pksN I l) d))) (by kernel_rfl) h11).1
      subst eaB
      have HB := Lib.hid (ints_of_own (SM.get (tbl := [.lit (.pointer (some ⟨xb, 0, none⟩)), .lit (.agg #[.string d.nm, .int .u8 (d.o : Int), .int .i64 d.n, .string d.v, .string d.r]), .own (w4.heap.size) ((provL (pksN I l) d)), .lit (.pointer (some ⟨xb, 0, none⟩)), .lit (.agg #[.string d.nm, .int .u8 (d.o : Int), .int .i64 d.n, .string d.v, .string d.r]), .own (w4.heap.size) ((namedL (pksN I l) d)), .own (w4.heap.size) ((provL (pksN I l) d)), .own (w4.heap.size) ((namedL (pksN I l) d))]) (k := .own (w4.heap.size) ((namedL (pksN I l) d))) (by kernel_rfl) h11))
      have HK6 := Lib.hid (HKW.out.trans hC (fun _ _ h => h))
      have HI6 := Lib.hid (HI.out.quiet hC)
      have HD6 := Lib.hid (hC.box HD.out (fun h => h))
      have HP6 := Lib.hid (HP.out.kept hC (fun _ _ h => h))
      have HSZ6 := Lib.hid hC.size
      clear hall h38 h39 h40 h41 h42 h43 h10 h11
      simp only [EndsP]
      go_simp
      go_wp2_with fail
      clear HI HD HP HKW
      have HI := HI6
      have HD := HD6
      have HSZ := HSZ6
      clear HI6
      refine wp_region_inv (SM [.lit (.pointer (some ⟨xb, 0, none⟩)), .lit (.pointer (some ⟨gd, 0, none⟩)), .lit (.string d.nm), .lit (.agg #[.string d.nm, .int .u8 0, .int .i64 0, .string ⟨#[]⟩, .string ⟨#[]⟩]), .own (w4.heap.size) ((provL (pksN I l) (e13 d.nm 0 ⟨#[]⟩))), .lit (.pointer (some ⟨xb, 0, none⟩)), .lit (.pointer (some ⟨gd, 0, none⟩)), .lit (.string d.nm), .lit (.agg #[.string d.nm, .int .u8 0, .int .i64 0, .string ⟨#[]⟩, .string ⟨#[]⟩]), .own (w4.heap.size) ((namedL (pksN I l) (e13 d.nm 0 ⟨#[]⟩))), .own (w4.heap.size) ((provL (pksN I l) (e13 d.nm 0 ⟨#[]⟩))), .own (w4.heap.size) ((namedL (pksN I l) (e13 d.nm 0 ⟨#[]⟩)))]) (fun w1 w2 => Kept (fun _ => False) w1 w2) (fun _ w' => Kept (fun _ => False) w6 w') (by kernel_rfl) (by kernel_rfl) (Kept.refl (fun _ => False) w6).drew (fun j w1 w2 v h hs => SM.kept [.lit (.pointer (some ⟨xb, 0, none⟩)), .lit (.pointer (some ⟨gd, 0, none⟩)), .lit (.string d.nm), .lit (.agg #[.string d.nm, .int .u8 0, .int .i64 0, .string ⟨#[]⟩, .string ⟨#[]⟩]), .own (w4.heap.size) ((provL (pksN I l) (e13 d.nm 0 ⟨#[]⟩))), .lit (.pointer (some ⟨xb, 0, none⟩)), .lit (.pointer (some ⟨gd, 0, none⟩)), .lit (.string d.nm), .lit (.agg #[.string d.nm, .int .u8 0, .int .i64 0, .string ⟨#[]⟩, .string ⟨#[]⟩]), .own (w4.heap.size) ((namedL (pksN I l) (e13 d.nm 0 ⟨#[]⟩))), .own (w4.heap.size) ((provL (pksN I l) (e13 d.nm 0 ⟨#[]⟩))), .own (w4.heap.size) ((namedL (pksN I l) (e13 d.nm 0 ⟨#[]⟩)))] j w1 w2 v h hs) ⟨OpOK.plain rfl ?r0, OpOK.plain rfl ?r1, OpOK.plain rfl ?r2, OpOK.plain rfl ?r3, OpOK.plain rfl ?r4, OpOK.plain rfl ?r5, OpOK.plain rfl ?r6, OpOK.plain rfl ?r7, OpOK.plain rfl ?r8, OpOK.plain rfl ?r9, OpOK.plain rfl ?r10, OpOK.plain rfl ?r11, trivial⟩ ?rend
      case r0 =>
        intro ls a wz hC hz hnew hwait hs hd K hK
        have t7 := hs 7 _ (by kernel_rfl) rfl
        have t7' := t7
        rw [Array.getD_eq_getD_getElem?] at t7'
        clear hs hd
        go_simp
        exact hK _ _ (Kept.refl (fun _ => False) wz) hC (fun _ => SM.mk (tbl := [.lit (.pointer (some ⟨xb, 0, none⟩)), .lit (.pointer (some ⟨gd, 0, none⟩)), .lit (.string d.nm), .lit (.agg #[.string d.nm, .int .u8 0, .int .i64 0, .string ⟨#[]⟩, .string ⟨#[]⟩]), .own (w4.heap.size) ((provL (pksN I l) (e13 d.nm 0 ⟨#[]⟩))), .lit (.pointer (some ⟨xb, 0, none⟩)), .lit (.pointer (some ⟨gd, 0, none⟩)), .lit (.string d.nm), .lit (.agg #[.string d.nm, .int .u8 0, .int .i64 0, .string ⟨#[]⟩, .string ⟨#[]⟩]), .own (w4.heap.size) ((namedL (pksN I l) (e13 d.nm 0 ⟨#[]⟩))), .own (w4.heap.size) ((provL (pksN I l) (e13 d.nm 0 ⟨#[]⟩))), .own (w4.heap.size) ((namedL (pksN I l) (e13 d.nm 0 ⟨#[]⟩)))]) (k := .lit (.pointer (some ⟨xb, 0, none⟩))) (by kernel_rfl) rfl)
      case r1 =>
        intro ls a wz hC hz hnew hwait hs hd K hK
        have t5 := hs 5 _ (by kernel_rfl) rfl
        have t5' := t5
        rw [Array.getD_eq_getD_getElem?] at t5'
        clear hs hd
        go_simp
        exact hK _ _ (Kept.refl (fun _ => False) wz) hC (fun _ => SM.mk (tbl := [.lit (.pointer (some ⟨xb, 0, none⟩)), .lit (.pointer (some ⟨gd, 0, none⟩)), .lit (.string d.nm), .lit (.agg #[.string d.nm, .int .u8 0, .int .i64 0, .string ⟨#[]⟩, .string ⟨#[]⟩]), .own (w4.heap.size) ((provL (pksN I l) (e13 d.nm 0 ⟨#[]⟩))), .lit (.pointer (some ⟨xb, 0, none⟩)), .lit (.pointer (some ⟨gd, 0, none⟩)), .lit (.string d.nm), .lit (.agg #[.string d.nm, .int .u8 0, .int .i64 0, .string ⟨#[]⟩, .string ⟨#[]⟩]), .own (w4.heap.size) ((namedL (pksN I l) (e13 d.nm 0 ⟨#[]⟩))), .own (w4.heap.size) ((provL (pksN I l) (e13 d.nm 0 ⟨#[]⟩))), .own (w4.heap.size) ((namedL (pksN I l) (e13 d.nm 0 ⟨#[]⟩)))]) (k := .lit (.pointer (some ⟨gd, 0, none⟩))) (by kernel_rfl) rfl)
      case r2 =>
        intro ls a wz hC hz hnew hwait hs hd K hK
        have d1 : a.tmps.getD 45 undef = .pointer (some ⟨gd, 0, none⟩) := by
          obtain ⟨u, hu, hv⟩ := hd 1 45 (by kernel_rfl) (by kernel_rfl)
          rw [hu]; exact SM.get (tbl := [.lit (.pointer (some ⟨xb, 0, none⟩)), .lit (.pointer (some ⟨gd, 0, none⟩)), .lit (.string d.nm), .lit (.agg #[.string d.nm, .int .u8 0, .int .i64 0, .string ⟨#[]⟩, .string ⟨#[]⟩]), .own (w4.heap.size) ((provL (pksN I l) (e13 d.nm 0 ⟨#[]⟩))), .lit (.pointer (some ⟨xb, 0, none⟩)), .lit (.pointer (some ⟨gd, 0, none⟩)), .lit (.string d.nm), .lit (.agg #[.string d.nm, .int .u8 0, .int .i64 0, .string ⟨#[]⟩, .string ⟨#[]⟩]), .own (w4.heap.size) ((namedL (pksN I l) (e13 d.nm 0 ⟨#[]⟩))), .own (w4.heap.size) ((provL (pksN I l) (e13 d.nm 0 ⟨#[]⟩))), .own (w4.heap.size) ((namedL (pksN I l) (e13 d.nm 0 ⟨#[]⟩)))]) (k := .lit (.pointer (some ⟨gd, 0, none⟩))) (by kernel_rfl) hv
        have d1' : a.tmps[45]?.getD undef = .pointer (some ⟨gd, 0, none⟩) := by rw [← Array.getD_eq_getD_getElem?]; exact d1
        have hbd := hC.box HD.out (fun h => h)
        have kd0 := hbd.cell 0
        have kd1 := hbd.cell 1
        have kd2 := hbd.cell 2
        have kd3 := hbd.cell 3
        have kd4 := hbd.cell 4
        clear hs hd
        go_simp
        exact hK _ _ (Kept.refl (fun _ => False) wz) hC (fun _ => SM.mk (tbl := [.lit (.pointer (some ⟨xb, 0, none⟩)), .lit (.pointer (some ⟨gd, 0, none⟩)), .lit (.string d.nm), .lit (.agg #[.string d.nm, .int .u8 0, .int .i64 0, .string ⟨#[]⟩, .string ⟨#[]⟩]), .own (w4.heap.size) ((provL (pksN I l) (e13 d.nm 0 ⟨#[]⟩))), .lit (.pointer (some ⟨xb, 0, none⟩)), .lit (.pointer (some ⟨gd, 0, none⟩)), .lit (.string d.nm), .lit (.agg #[.string d.nm, .int .u8 0, .int .i64 0, .string ⟨#[]⟩, .string ⟨#[]⟩]), .own (w4.heap.size) ((namedL (pksN I l) (e13 d.nm 0 ⟨#[]⟩))), .own (w4.heap.size) ((provL (pksN I l) (e13 d.nm 0 ⟨#[]⟩))), .own (w4.heap.size) ((namedL (pksN I l) (e13 d.nm 0 ⟨#[]⟩)))]) (k := .lit (.string d.nm)) (by kernel_rfl) rfl)
      case r3 =>
        intro ls a wz hC hz hnew hwait hs hd K hK
        have d2 : a.tmps.getD 46 undef = .string d.nm := by
          obtain ⟨u, hu, hv⟩ := hd 2 46 (by kernel_rfl) (by kernel_rfl)
          rw [hu]; exact SM.get (tbl := [.lit (.pointer (some ⟨xb, 0, none⟩)), .lit (.pointer (some ⟨gd, 0, none⟩)), .lit (.string d.nm), .lit (.agg #[.string d.nm, .int .u8 0, .int .i64 0, .string ⟨#[]⟩, .string ⟨#[]⟩]), .own (w4.heap.size) ((provL (pksN I l) (e13 d.nm 0 ⟨#[]⟩))), .lit (.pointer (some ⟨xb, 0, none⟩)), .lit (.pointer (some ⟨gd, 0, none⟩)), .lit (.string d.nm), .lit (.agg #[.string d.nm, .int .u8 0, .int .i64 0, .string ⟨#[]⟩, .string ⟨#[]⟩]), .own (w4.heap.size) ((namedL (pksN I l) (e13 d.nm 0 ⟨#[]⟩))), .own (w4.heap.size) ((provL (pksN I l) (e13 d.nm 0 ⟨#[]⟩))), .own (w4.heap.size) ((namedL (pksN I l) (e13 d.nm 0 ⟨#[]⟩)))]) (k := .lit (.string d.nm)) (by kernel_rfl) hv
        have d2' : a.tmps[46]?.getD undef = .string d.nm := by rw [← Array.getD_eq_getD_getElem?]; exact d2
        clear hs hd
        go_simp
        refine (dep13_0 d.nm ⟨#[]⟩ _).mono ?_
        rintro e wv ⟨rfl, hkv⟩
        exact hK _ _ hkv (hC.trans hkv (fun _ _ h => h)) (fun _ => SM.mk (tbl := [.lit (.pointer (some ⟨xb, 0, none⟩)), .lit (.pointer (some ⟨gd, 0, none⟩)), .lit (.string d.nm), .lit (.agg #[.string d.nm, .int .u8 0, .int .i64 0, .string ⟨#[]⟩, .string ⟨#[]⟩]), .own (w4.heap.size) ((provL (pksN I l) (e13 d.nm 0 ⟨#[]⟩))), .lit (.pointer (some ⟨xb, 0, none⟩)), .lit (.pointer (some ⟨gd, 0, none⟩)), .lit (.string d.nm), .lit (.agg #[.string d.nm, .int .u8 0, .int .i64 0, .string ⟨#[]⟩, .string ⟨#[]⟩]), .own (w4.heap.size) ((namedL (pksN I l) (e13 d.nm 0 ⟨#[]⟩))), .own (w4.heap.size) ((provL (pksN I l) (e13 d.nm 0 ⟨#[]⟩))), .own (w4.heap.size) ((namedL (pksN I l) (e13 d.nm 0 ⟨#[]⟩)))]) (k := .lit (.agg #[.string d.nm, .int .u8 0, .int .i64 0, .string ⟨#[]⟩, .string ⟨#[]⟩])) (by kernel_rfl) rfl)
      case r4 =>
        intro ls a wz hC hz hnew hwait hs hd K hK
        have d0 : a.tmps.getD 44 undef = .pointer (some ⟨xb, 0, none⟩) := by
          obtain ⟨u, hu, hv⟩ := hd 0 44 (by kernel_rfl) (by kernel_rfl)
          rw [hu]; exact SM.get (tbl := [.lit (.pointer (some ⟨xb, 0, none⟩)), .lit (.pointer (some ⟨gd, 0, none⟩)), .lit (.string d.nm), .lit (.agg #[.string d.nm, .int .u8 0, .int .i64 0, .string ⟨#[]⟩, .string ⟨#[]⟩]), .own (w4.heap.size) ((provL (pksN I l) (e13 d.nm 0 ⟨#[]⟩))), .lit (.pointer (some ⟨xb, 0, none⟩)), .lit (.pointer (some ⟨gd, 0, none⟩)), .lit (.string d.nm), .lit (.agg #[.string d.nm, .int .u8 0, .int .i64 0, .string ⟨#[]⟩, .string ⟨#[]⟩]), .own (w4.heap.size) ((namedL (pksN I l) (e13 d.nm 0 ⟨#[]⟩))), .own (w4.heap.size) ((provL (pksN I l) (e13 d.nm 0 ⟨#[]⟩))), .own (w4.heap.size) ((namedL (pksN I l) (e13 d.nm 0 ⟨#[]⟩)))]) (k := .lit (.pointer (some ⟨xb, 0, none⟩))) (by kernel_rfl) hv
        have d0' : a.tmps[44]?.getD undef = .pointer (some ⟨xb, 0, none⟩) := by rw [← Array.getD_eq_getD_getElem?]; exact d0
        have d3 : a.tmps.getD 47 undef = .agg #[.string d.nm, .int .u8 0, .int .i64 0, .string ⟨#[]⟩, .string ⟨#[]⟩] := by
          obtain ⟨u, hu, hv⟩ := hd 3 47 (by kernel_rfl) (by kernel_rfl)
          rw [hu]; exact SM.get (tbl := [.lit (.pointer (some ⟨xb, 0, none⟩)), .lit (.pointer (some ⟨gd, 0, none⟩)), .lit (.string d.nm), .lit (.agg #[.string d.nm, .int .u8 0, .int .i64 0, .string ⟨#[]⟩, .string ⟨#[]⟩]), .own (w4.heap.size) ((provL (pksN I l) (e13 d.nm 0 ⟨#[]⟩))), .lit (.pointer (some ⟨xb, 0, none⟩)), .lit (.pointer (some ⟨gd, 0, none⟩)), .lit (.string d.nm), .lit (.agg #[.string d.nm, .int .u8 0, .int .i64 0, .string ⟨#[]⟩, .string ⟨#[]⟩]), .own (w4.heap.size) ((namedL (pksN I l) (e13 d.nm 0 ⟨#[]⟩))), .own (w4.heap.size) ((provL (pksN I l) (e13 d.nm 0 ⟨#[]⟩))), .own (w4.heap.size) ((namedL (pksN I l) (e13 d.nm 0 ⟨#[]⟩)))]) (k := .lit (.agg #[.string d.nm, .int .u8 0, .int .i64 0, .string ⟨#[]⟩, .string ⟨#[]⟩])) (by kernel_rfl) hv
        have d3' : a.tmps[47]?.getD undef = .agg #[.string d.nm, .int .u8 0, .int .i64 0, .string ⟨#[]⟩, .string ⟨#[]⟩] := by rw [← Array.getD_eq_getD_getElem?]; exact d3
        clear hs hd
        go_simp
        refine (providers13_walk (HI.out.quiet hC) HOK.out.fits HLN.out HE1.out (e13 d.nm 0 ⟨#[]⟩) (n0_fits HDF.out)).mono ?_
        rintro e wv ⟨⟨v', rfl, ho⟩, hkv⟩
        have ho' := own_less13 ho (b := w4.heap.size) (Nat.le_trans HSZ.out hC.size)
        exact hK _ _ hkv (hC.trans hkv (fun _ _ h => h)) (fun _ => SM.mk (tbl := [.lit (.pointer (some ⟨xb, 0, none⟩)), .lit (.pointer (some ⟨gd, 0, none⟩)), .lit (.string d.nm), .lit (.agg #[.string d.nm, .int .u8 0, .int .i64 0, .string ⟨#[]⟩, .string ⟨#[]⟩]), .own (w4.heap.size) ((provL (pksN I l) (e13 d.nm 0 ⟨#[]⟩))), .lit (.pointer (some ⟨xb, 0, none⟩)), .lit (.pointer (some ⟨gd, 0, none⟩)), .lit (.string d.nm), .lit (.agg #[.string d.nm, .int .u8 0, .int .i64 0, .string ⟨#[]⟩, .string ⟨#[]⟩]), .own (w4.heap.size) ((namedL (pksN I l) (e13 d.nm 0 ⟨#[]⟩))), .own (w4.heap.size) ((provL (pksN I l) (e13 d.nm 0 ⟨#[]⟩))), .own (w4.heap.size) ((namedL (pksN I l) (e13 d.nm 0 ⟨#[]⟩)))]) (k := .own (w4.heap.size) ((provL (pksN I l) (e13 d.nm 0 ⟨#[]⟩)))) (by kernel_rfl) ho')
      case r5 =>
        intro ls a wz hC hz hnew hwait hs hd K hK
        have t7 := hs 7 _ (by kernel_rfl) rfl
        have t7' := t7
        rw [Array.getD_eq_getD_getElem?] at t7'
        clear hs hd
        go_simp
        exact hK _ _ (Kept.refl (fun _ => False) wz) hC (fun _ => SM.mk (tbl := [.lit (.pointer (some ⟨xb, 0, none⟩)), .lit (.pointer (some ⟨gd, 0, none⟩)), .lit (.string d.nm), .lit (.agg #[.string d.nm, .int .u8 0, .int .i64 0, .string ⟨#[]⟩, .string ⟨#[]⟩]), .own (w4.heap.size) ((provL (pksN I l) (e13 d.nm 0 ⟨#[]⟩))), .lit (.pointer (some ⟨xb, 0, none⟩)), .lit (.pointer (some ⟨gd, 0, none⟩)), .lit (.string d.nm), .lit (.agg #[.string d.nm, .int .u8 0, .int .i64 0, .string ⟨#[]⟩, .string ⟨#[]⟩]), .own (w4.heap.size) ((namedL (pksN I l) (e13 d.nm 0 ⟨#[]⟩))), .own (w4.heap.size) ((provL (pksN I l) (e13 d.nm 0 ⟨#[]⟩))), .own (w4.heap.size) ((namedL (pksN I l) (e13 d.nm 0 ⟨#[]⟩)))]) (k := .lit (.pointer (some ⟨xb, 0, none⟩))) (by kernel_rfl) rfl)
      case r6 =>
        intro ls a wz hC hz hnew hwait hs hd K hK
        have t5 := hs 5 _ (by kernel_rfl) rfl
        have t5' := t5
        rw [Array.getD_eq_getD_getElem?] at t5'
        clear hs hd
        go_simp
        exact hK _ _ (Kept.refl (fun _ => False) wz) hC (fun _ => SM.mk (tbl := [.lit (.pointer (some ⟨xb, 0, none⟩)), .lit (.pointer (some ⟨gd, 0, none⟩)), .lit (.string d.nm), .lit (.agg #[.string d.nm, .int .u8 0, .int .i64 0, .string ⟨#[]⟩, .string ⟨#[]⟩]), .own (w4.heap.size) ((provL (pksN I l) (e13 d.nm 0 ⟨#[]⟩))), .lit (.pointer (some ⟨xb, 0, none⟩)), .lit (.pointer (some ⟨gd, 0, none⟩)), .lit (.string d.nm), .lit (.agg #[.string d.nm, .int .u8 0, .int .i64 0, .string ⟨#[]⟩, .string ⟨#[]⟩]), .own (w4.heap.size) ((namedL (pksN I l) (e13 d.nm 0 ⟨#[]⟩))), .own (w4.heap.size) ((provL (pksN I l) (e13 d.nm 0 ⟨#[]⟩))), .own (w4.heap.size) ((namedL (pksN I l) (e13 d.nm 0 ⟨#[]⟩)))]) (k := .lit (.pointer (some ⟨gd, 0, none⟩))) (by kernel_rfl) rfl)
      case r7 =>
        intro ls a wz hC hz hnew hwait hs hd K hK
        have d6 : a.tmps.getD 50 undef = .pointer (some ⟨gd, 0, none⟩) := by
          obtain ⟨u, hu, hv⟩ := hd 6 50 (by kernel_rfl) (by kernel_rfl)
          rw [hu]; exact SM.get (tbl := [.lit (.pointer (some ⟨xb, 0, none⟩)), .lit (.pointer (some ⟨gd, 0, none⟩)), .lit (.string d.nm), .lit (.agg #[.string d.nm, .int .u8 0, .int .i64 0, .string ⟨#[]⟩, .string ⟨#[]⟩]), .own (w4.heap.size) ((provL (pksN I l) (e13 d.nm 0 ⟨#[]⟩))), .lit (.pointer (some ⟨xb, 0, none⟩)), .lit (.pointer (some ⟨gd, 0, none⟩)), .lit (.string d.nm), .lit (.agg #[.string d.nm, .int .u8 0, .int .i64 0, .string ⟨#[]⟩, .string ⟨#[]⟩]), .own (w4.heap.size) ((namedL (pksN I l) (e13 d.nm 0 ⟨#[]⟩))), .own (w4.heap.size) ((provL (pksN I l) (e13 d.nm 0 ⟨#[]⟩))), .own (w4.heap.size) ((namedL (pksN I l) (e13 d.nm 0 ⟨#[]⟩)))]) (k := .lit (.pointer (some ⟨gd, 0, none⟩))) (by kernel_rfl) hv
        have d6' : a.tmps[50]?.getD undef = .pointer (some ⟨gd, 0, none⟩) := by rw [← Array.getD_eq_getD_getElem?]; exact d6
        have hbd := hC.box HD.out (fun h => h)
        have kd0 := hbd.cell 0
        have kd1 := hbd.cell 1
        have kd2 := hbd.cell 2
        have kd3 := hbd.cell 3
        have kd4 := hbd.cell 4
        clear hs hd
        go_simp
        exact hK _ _ (Kept.refl (fun _ => False) wz) hC (fun _ => SM.mk (tbl := [.lit (.pointer (some ⟨xb, 0, none⟩)), .lit (.pointer (some ⟨gd, 0, none⟩)), .lit (.string d.nm), .lit (.agg #[.string d.nm, .int .u8 0, .int .i64 0, .string ⟨#[]⟩, .string ⟨#[]⟩]), .own (w4.heap.size) ((provL (pksN I l) (e13 d.nm 0 ⟨#[]⟩))), .lit (.pointer (some ⟨xb, 0, none⟩)), .lit (.pointer (some ⟨gd, 0, none⟩)), .lit (.string d.nm), .lit (.agg #[.string d.nm, .int .u8 0, .int .i64 0, .string ⟨#[]⟩, .string ⟨#[]⟩]), .own (w4.heap.size) ((namedL (pksN I l) (e13 d.nm 0 ⟨#[]⟩))), .own (w4.heap.size) ((provL (pksN I l) (e13 d.nm 0 ⟨#[]⟩))), .own (w4.heap.size) ((namedL (pksN I l) (e13 d.nm 0 ⟨#[]⟩)))]) (k := .lit (.string d.nm)) (by kernel_rfl) rfl)
      case r8 =>
        intro ls a wz hC hz hnew hwait hs hd K hK
        have d7 : a.tmps.getD 51 undef = .string d.nm := by
          obtain ⟨u, hu, hv⟩ := hd 7 51 (by kernel_rfl) (by kernel_rfl)
          rw [hu]; exact SM.get (tbl := [.lit (.pointer (some ⟨xb, 0, none⟩)), .lit (.pointer (some ⟨gd, 0, none⟩)), .lit (.string d.nm), .lit (.agg #[.string d.nm, .int .u8 0, .int .i64 0, .string ⟨#[]⟩, .string ⟨#[]⟩]), .own (w4.heap.size) ((provL (pksN I l) (e13 d.nm 0 ⟨#[]⟩))), .lit (.pointer (some ⟨xb, 0, none⟩)), .lit (.pointer (some ⟨gd, 0, none⟩)), .lit (.string d.nm), .lit (.agg #[.string d.nm, .int .u8 0, .int .i64 0, .string ⟨#[]⟩, .string ⟨#[]⟩]), .own (w4.heap.size) ((namedL (pksN I l) (e13 d.nm 0 ⟨#[]⟩))), .own (w4.heap.size) ((provL (pksN I l) (e13 d.nm 0 ⟨#[]⟩))), .own (w4.heap.size) ((namedL (pksN I l) (e13 d.nm 0 ⟨#[]⟩)))]) (k := .lit (.string d.nm)) (by kernel_rfl) hv
        have d7' : a.tmps[51]?.getD undef = .string d.nm := by rw [← Array.getD_eq_getD_getElem?]; exact d7
        clear hs hd
        go_simp
        refine (dep13_0 d.nm ⟨#[]⟩ _).mono ?_
        rintro e wv ⟨rfl, hkv⟩
        exact hK _ _ hkv (hC.trans hkv (fun _ _ h => h)) (fun _ => SM.mk (tbl := [.lit (.pointer (some ⟨xb, 0, none⟩)), .lit (.pointer (some ⟨gd, 0, none⟩)), .lit (.string d.nm), .lit (.agg #[.string d.nm, .int .u8 0, .int .i64 0, .string ⟨#[]⟩, .string ⟨#[]⟩]), .own (w4.heap.size) ((provL (pksN I l) (e13 d.nm 0 ⟨#[]⟩))), .lit (.pointer (some ⟨xb, 0, none⟩)), .lit (.pointer (some ⟨gd, 0, none⟩)), .lit (.string d.nm), .lit (.agg #[.string d.nm, .int .u8 0, .int .i64 0, .string ⟨#[]⟩, .string ⟨#[]⟩]), .own (w4.heap.size) ((namedL (pksN I l) (e13 d.nm 0 ⟨#[]⟩))), .own (w4.heap.size) ((provL (pksN I l) (e13 d.nm 0 ⟨#[]⟩))), .own (w4.heap.size) ((namedL (pksN I l) (e13 d.nm 0 ⟨#[]⟩)))]) (k := .lit (.agg #[.string d.nm, .int .u8 0, .int .i64 0, .string ⟨#[]⟩, .string ⟨#[]⟩])) (by kernel_rfl) rfl)
      case r9 =>
        intro ls a wz hC hz hnew hwait hs hd K hK
        have d5 : a.tmps.getD 49 undef = .pointer (some ⟨xb, 0, none⟩) := by
          obtain ⟨u, hu, hv⟩ := hd 5 49 (by kernel_rfl) (by kernel_rfl)
          rw [hu]; exact SM.get (tbl := [.lit (.pointer (some ⟨xb, 0, none⟩)), .lit (.pointer (some ⟨gd, 0, none⟩)), .lit (.string d.nm), .lit (.agg #[.string d.nm, .int .u8 0, .int .i64 0, .string ⟨#[]⟩, .string ⟨#[]⟩]), .own (w4.heap.size) ((provL (pksN I l) (e13 d.nm 0 ⟨#[]⟩))), .lit (.pointer (some ⟨xb, 0, none⟩)), .lit (.pointer (some ⟨gd, 0, none⟩)), .lit (.string d.nm), .lit (.agg #[.string d.nm, .int .u8 0, .int .i64 0, .string ⟨#[]⟩, .string ⟨#[]⟩]), .own (w4.heap.size) ((namedL (pksN I l) (e13 d.nm 0 ⟨#[]⟩))), .own (w4.heap.size) ((provL (pksN I l) (e13 d.nm 0 ⟨#[]⟩))), .own (w4.heap.size) ((namedL (pksN I l) (e13 d.nm 0 ⟨#[]⟩)))]) (k := .lit (.pointer (some ⟨xb, 0, none⟩))) (by kernel_rfl) hv
        have d5' : a.tmps[49]?.getD undef = .pointer (some ⟨xb, 0, none⟩) := by rw [← Array.getD_eq_getD_getElem?]; exact d5
        have d8 : a.tmps.getD 52 undef = .agg #[.string d.nm, .int .u8 0, .int .i64 0, .string ⟨#[]⟩, .string ⟨#[]⟩] := by
          obtain ⟨u, hu, hv⟩ := hd 8 52 (by kernel_rfl) (by kernel_rfl)
          rw [hu]; exact SM.get (tbl := [.lit (.pointer (some ⟨xb, 0, none⟩)), .lit (.pointer (some ⟨gd, 0, none⟩)), .lit (.string d.nm), .lit (.agg #[.string d.nm, .int .u8 0, .int .i64 0, .string ⟨#[]⟩, .string ⟨#[]⟩]), .own (w4.heap.size) ((provL (pksN I l) (e13 d.nm 0 ⟨#[]⟩))), .lit (.pointer (some ⟨xb, 0, none⟩)), .lit (.pointer (some ⟨gd, 0, none⟩)), .lit (.string d.nm), .lit (.agg #[.string d.nm, .int .u8 0, .int .i64 0, .string ⟨#[]⟩, .string ⟨#[]⟩]), .own (w4.heap.size) ((namedL (pksN I l) (e13 d.nm 0 ⟨#[]⟩))), .own (w4.heap.size) ((provL (pksN I l) (e13 d.nm 0 ⟨#[]⟩))), .own (w4.heap.size) ((namedL (pksN I l) (e13 d.nm 0 ⟨#[]⟩)))]) (k := .lit (.agg #[.string d.nm, .int .u8 0, .int .i64 0, .string ⟨#[]⟩, .string ⟨#[]⟩])) (by kernel_rfl) hv
        have d8' : a.tmps[52]?.getD undef = .agg #[.string d.nm, .int .u8 0, .int .i64 0, .string ⟨#[]⟩, .string ⟨#[]⟩] := by rw [← Array.getD_eq_getD_getElem?]; exact d8
        clear hs hd
        go_simp
        refine (named13_walk (HI.out.quiet hC) HOK.out.fits HLN.out HE1.out (e13 d.nm 0 ⟨#[]⟩) (n0_fits HDF.out)).mono ?_
        rintro e wv ⟨⟨v', rfl, ho⟩, hkv⟩
        have ho' := own_less13 ho (b := w4.heap.size) (Nat.le_trans HSZ.out hC.size)
        exact hK _ _ hkv (hC.trans hkv (fun _ _ h => h)) (fun _ => SM.mk (tbl := [.lit (.pointer (some ⟨xb, 0, none⟩)), .lit (.pointer (some ⟨gd, 0, none⟩)), .lit (.string d.nm), .lit (.agg #[.string d.nm, .int .u8 0, .int .i64 0, .string ⟨#[]⟩, .string ⟨#[]⟩]), .own (w4.heap.size) ((provL (pksN I l) (e13 d.nm 0 ⟨#[]⟩))), .lit (.pointer (some ⟨xb, 0, none⟩)), .lit (.pointer (some ⟨gd, 0, none⟩)), .lit (.string d.nm), .lit (.agg #[.string d.nm, .int .u8 0, .int .i64 0, .string ⟨#[]⟩, .string ⟨#[]⟩]), .own (w4.heap.size) ((namedL (pksN I l) (e13 d.nm 0 ⟨#[]⟩))), .own (w4.heap.size) ((provL (pksN I l) (e13 d.nm 0 ⟨#[]⟩))), .own (w4.heap.size) ((namedL (pksN I l) (e13 d.nm 0 ⟨#[]⟩)))]) (k := .own (w4.heap.size) ((namedL (pksN I l) (e13 d.nm 0 ⟨#[]⟩)))) (by kernel_rfl) ho')
      case r10 =>
        intro ls a wz hC hz hnew hwait hs hd K hK
        obtain ⟨v4, d4, hv4⟩ := hd 4 48 (by kernel_rfl) (by kernel_rfl)
        have hq4 : wz.ownsInts (w4.heap.size) 3 .i64 v4 ((provL (pksN I l) (e13 d.nm 0 ⟨#[]⟩))) := SM.get (tbl := [.lit (.pointer (some ⟨xb, 0, none⟩)), .lit (.pointer (some ⟨gd, 0, none⟩)), .lit (.string d.nm), .lit (.agg #[.string d.nm, .int .u8 0, .int .i64 0, .string ⟨#[]⟩, .string ⟨#[]⟩]), .own (w4.heap.size) ((provL (pksN I l) (e13 d.nm 0 ⟨#[]⟩))), .lit (.pointer (some ⟨xb, 0, none⟩)), .lit (.pointer (some ⟨gd, 0, none⟩)), .lit (.string d.nm), .lit (.agg #[.string d.nm, .int .u8 0, .int .i64 0, .string ⟨#[]⟩, .string ⟨#[]⟩]), .own (w4.heap.size) ((namedL (pksN I l) (e13 d.nm 0 ⟨#[]⟩))), .own (w4.heap.size) ((provL (pksN I l) (e13 d.nm 0 ⟨#[]⟩))), .own (w4.heap.size) ((namedL (pksN I l) (e13 d.nm 0 ⟨#[]⟩)))]) (k := .own (w4.heap.size) ((provL (pksN I l) (e13 d.nm 0 ⟨#[]⟩)))) (by kernel_rfl) hv4
        obtain ⟨ao4, cp4, e4⟩ := own_form hq4.1
        subst e4
        have d4' := d4
        rw [Array.getD_eq_getD_getElem?] at d4'
        clear hv4
        clear hs hd
        go_simp
        exact hK _ _ (Kept.refl (fun _ => False) wz) hC (fun _ => SM.mk (tbl := [.lit (.pointer (some ⟨xb, 0, none⟩)), .lit (.pointer (some ⟨gd, 0, none⟩)), .lit (.string d.nm), .lit (.agg #[.string d.nm, .int .u8 0, .int .i64 0, .string ⟨#[]⟩, .string ⟨#[]⟩]), .own (w4.heap.size) ((provL (pksN I l) (e13 d.nm 0 ⟨#[]⟩))), .lit (.pointer (some ⟨xb, 0, none⟩)), .lit (.pointer (some ⟨gd, 0, none⟩)), .lit (.string d.nm), .lit (.agg #[.string d.nm, .int .u8 0, .int .i64 0, .string ⟨#[]⟩, .string ⟨#[]⟩]), .own (w4.heap.size) ((namedL (pksN I l) (e13 d.nm 0 ⟨#[]⟩))), .own (w4.heap.size) ((provL (pksN I l) (e13 d.nm 0 ⟨#[]⟩))), .own (w4.heap.size) ((namedL (pksN I l) (e13 d.nm 0 ⟨#[]⟩)))]) (k := .own (w4.heap.size) ((provL (pksN I l) (e13 d.nm 0 ⟨#[]⟩)))) (by kernel_rfl) hq4)
      case r11 =>
        intro ls a wz hC hz hnew hwait hs hd K hK
        obtain ⟨v9, d9, hv9⟩ := hd 9 53 (by kernel_rfl) (by kernel_rfl)
        have hq9 : wz.ownsInts (w4.heap.size) 3 .i64 v9 ((namedL (pksN I l) (e13 d.nm 0 ⟨#[]⟩))) := SM.get (tbl := [.lit (.pointer (some ⟨xb, 0, none⟩)), .lit (.pointer (some ⟨gd, 0, none⟩)), .lit (.string d.nm), .lit (.agg #[.string d.nm, .int .u8 0, .int .i64 0, .string ⟨#[]⟩, .string ⟨#[]⟩]), .own (w4.heap.size) ((provL (pksN I l) (e13 d.nm 0 ⟨#[]⟩))), .lit (.pointer (some ⟨xb, 0, none⟩)), .lit (.pointer (some ⟨gd, 0, none⟩)), .lit (.string d.nm), .lit (.agg #[.string d.nm, .int .u8 0, .int .i64 0, .string ⟨#[]⟩, .string ⟨#[]⟩]), .own (w4.heap.size) ((namedL (pksN I l) (e13 d.nm 0 ⟨#[]⟩))), .own (w4.heap.size) ((provL (pksN I l) (e13 d.nm 0 ⟨#[]⟩))), .own (w4.heap.size) ((namedL (pksN I l) (e13 d.nm 0 ⟨#[]⟩)))]) (k := .own (w4.heap.size) ((namedL (pksN I l) (e13 d.nm 0 ⟨#[]⟩)))) (by kernel_rfl) hv9
        obtain ⟨ao9, cp9, e9⟩ := own_form hq9.1
        subst e9
        have d9' := d9
        rw [Array.getD_eq_getD_getElem?] at d9'
        clear hv9
        clear hs hd
        go_simp
        exact hK _ _ (Kept.refl (fun _ => False) wz) hC (fun _ => SM.mk (tbl := [.lit (.pointer (some ⟨xb, 0, none⟩)), .lit (.pointer (some ⟨gd, 0, none⟩)), .lit (.string d.nm), .lit (.agg #[.string d.nm, .int .u8 0, .int .i64 0, .string ⟨#[]⟩, .string ⟨#[]⟩]), .own (w4.heap.size) ((provL (pksN I l) (e13 d.nm 0 ⟨#[]⟩))), .lit (.pointer (some ⟨xb, 0, none⟩)), .lit (.pointer (some ⟨gd, 0, none⟩)), .lit (.string d.nm), .lit (.agg #[.string d.nm, .int .u8 0, .int .i64 0, .string ⟨#[]⟩, .string ⟨#[]⟩]), .own (w4.heap.size) ((namedL (pksN I l) (e13 d.nm 0 ⟨#[]⟩))), .own (w4.heap.size) ((provL (pksN I l) (e13 d.nm 0 ⟨#[]⟩))), .own (w4.heap.size) ((namedL (pksN I l) (e13 d.nm 0 ⟨#[]⟩)))]) (k := .own (w4.heap.size) ((namedL (pksN I l) (e13 d.nm 0 ⟨#[]⟩)))) (by kernel_rfl) hq9)
      case rend =>
        intro ls wz hall hC
        intro u44 h44
        intro u45 h45
        intro u46 h46
        intro u47 h47
        intro u48 h48
        intro u49 h49
        intro u50 h50
        intro u51 h51
        intro u52 h52
        intro u53 h53
        intro u12 h12
        intro u13 h13
        obtain ⟨aC, cC, eaC⟩ := own_form (SM.get (tbl := [.lit (.pointer (some ⟨xb, 0, none⟩)), .lit (.pointer (some ⟨gd, 0, none⟩)), .lit (.string d.nm), .lit (.agg #[.string d.nm, .int .u8 0, .int .i64 0, .string ⟨#[]⟩, .string ⟨#[]⟩]), .own (w4.heap.size) ((provL (pksN I l) (e13 d.nm 0 ⟨#[]⟩))), .lit (.pointer (some ⟨xb, 0, none⟩)), .lit (.pointer (some ⟨gd, 0, none⟩)), .lit (.string d.nm), .lit (.agg #[.string d.nm, .int .u8 0, .int .i64 0, .string ⟨#[]⟩, .string ⟨#[]⟩]), .own (w4.heap.size) ((namedL (pksN I l) (e13 d.nm 0 ⟨#[]⟩))), .own (w4.heap.size) ((provL (pksN I l) (e13 d.nm 0 ⟨#[]⟩))), .own (w4.heap.size) ((namedL (pksN I l) (e13 d.nm 0 ⟨#[]⟩)))]) (k := .own (w4.heap.size) ((provL (pksN I l) (e13 d.nm 0 ⟨#[]⟩)))) (by kernel_rfl) h12).1
        subst eaC
        have HC := Lib.hid (ints_of_own (SM.get (tbl := [.lit (.pointer (some ⟨xb, 0, none⟩)), .lit (.pointer (some ⟨gd, 0, none⟩)), .lit (.string d.nm), .lit (.agg #[.string d.nm, .int .u8 0, .int .i64 0, .string ⟨#[]⟩, .string ⟨#[]⟩]), .own (w4.heap.size) ((provL (pksN I l) (e13 d.nm 0 ⟨#[]⟩))), .lit (.pointer (some ⟨xb, 0, none⟩)), .lit (.pointer (some ⟨gd, 0, none⟩)), .lit (.string d.nm), .lit (.agg #[.string d.nm, .int .u8 0, .int .i64 0, .string ⟨#[]⟩, .string ⟨#[]⟩]), .own (w4.heap.size) ((namedL (pksN I l) (e13 d.nm 0 ⟨#[]⟩))), .own (w4.heap.size) ((provL (pksN I l) (e13 d.nm 0 ⟨#[]⟩))), .own (w4.heap.size) ((namedL (pksN I l) (e13 d.nm 0 ⟨#[]⟩)))]) (k := .own (w4.heap.size) ((provL (pksN I l) (e13 d.nm 0 ⟨#[]⟩)))) (by kernel_rfl) h12))
        obtain ⟨aF, cF, eaF⟩ := own_form (SM.get (tbl := [.lit (.pointer (some ⟨xb, 0, none⟩)), .lit (.pointer (some ⟨gd, 0, none⟩)), .lit (.string d.nm), .lit (.agg #[.string d.nm, .int .u8 0, .int .i64 0, .string ⟨#[]⟩, .string ⟨#[]⟩]), .own (w4.heap.size) ((provL (pksN I l) (e13 d.nm 0 ⟨#[]⟩))), .lit (.pointer (some ⟨xb, 0, none⟩)), .lit (.pointer (some ⟨gd, 0, none⟩)), .lit (.string d.nm), .lit (.agg #[.string d.nm, .int .u8 0, .int .i64 0, .string ⟨#[]⟩, .string ⟨#[]⟩]), .own (w4.heap.size) ((namedL (pksN I l) (e13 d.nm 0 ⟨#[]⟩))), .own (w4.heap.size) ((provL (pksN I l) (e13 d.nm 0 ⟨#[]⟩))), .own (w4.heap.size) ((namedL (pksN I l) (e13 d.nm 0 ⟨#[]⟩)))]) (k := .own (w4.heap.size) ((namedL (pksN I l) (e13 d.nm 0 ⟨#[]⟩)))) (by kernel_rfl) h13).1
        subst eaF
        have HF := Lib.hid (ints_of_own (SM.get (tbl := [.lit (.pointer (some ⟨xb, 0, none⟩)), .lit (.pointer (some ⟨gd, 0, none⟩)), .lit (.string d.nm), .lit (.agg #[.string d.nm, .int .u8 0, .int .i64 0, .string ⟨#[]⟩, .string ⟨#[]⟩]), .own (w4.heap.size) ((provL (pksN I l) (e13 d.nm 0 ⟨#[]⟩))), .lit (.pointer (some ⟨xb, 0, none⟩)), .lit (.pointer (some ⟨gd, 0, none⟩)), .lit (.string d.nm), .lit (.agg #[.string d.nm, .int .u8 0, .int .i64 0, .string ⟨#[]⟩, .string ⟨#[]⟩]), .own (w4.heap.size) ((namedL (pksN I l) (e13 d.nm 0 ⟨#[]⟩))), .own (w4.heap.size) ((provL (pksN I l) (e13 d.nm 0 ⟨#[]⟩))), .own (w4.heap.size) ((namedL (pksN I l) (e13 d.nm 0 ⟨#[]⟩)))]) (k := .own (w4.heap.size) ((namedL (pksN I l) (e13 d.nm 0 ⟨#[]⟩)))) (by kernel_rfl) h13))
        have K7 := Lib.hid hC
        clear hall h44 h45 h46 h47 h48 h49 h50 h51 h52 h53 h12 h13
        simp only [EndsP]
        go_simp
        go_wp2_with fail
        have hlA : (provL (pksN I l) d).length ≤ 256 := by
          unfold provL
          rw [numL_len]
          exact Nat.le_trans (metN_le _ _) HOK.out.few
        have HA7 := Lib.hid (HA.out.kept K7.out)
        have HB7 := Lib.hid (HB.out.kept K7.out)
        have HD7 := Lib.hid (K7.out.box HD6.out (fun h => h))
        have HP7 := Lib.hid (HP6.out.kept K7.out (fun _ _ h => h))
        have HK7 := Lib.hid (HK6.out.trans K7.out (fun _ _ h => h))
        have HLA := Lib.hid hlA
        clear HA HB HD6 HP6 HK6 K7
        go_loopw [14] (fun v14 wr => ∃ i : Nat, v14 = .int .i64 (i : Int) ∧ 1 ≤ i ∧ i ≤ 300 ∧ Hid (Kept (fun _ => False) wz wr)) (fun v14 _ => 300 - (intOf v14).toNat)
        case atStart => exact ⟨1, rfl, by decide, by decide, Lib.hid (Kept.refl _ _)⟩
        case round =>
          obtain ⟨i, rfl, hi1, hi3, HKR⟩ := hrel
          rename World => wr
          by_cases hlt : i < (provL (pksN I l) d).length
          · have hi0 : (0 : Int) ≤ (i : Int) := by omega
            have hiI : (i : Int) < ((provL (pksN I l) d).length : Int) := by omega
            have hj0 : (0 : Int) ≤ (i : Int) - 1 := by omega
            have hjI : (i : Int) - 1 < ((provL (pksN I l) d).length : Int) := by omega
            obtain ⟨j, rfl⟩ : ∃ j, i = j + 1 := ⟨i - 1, by omega⟩
            have hjw : IntKind.i64.wrap (((j + 1 : Nat) : Int) - 1) = (j : Int) := by rw [IntWalk.i64_in _ ⟨by omega, by omega⟩]; omega
            obtain ⟨x, hx⟩ : ∃ x, (provL (pksN I l) d)[j + 1]? = some x := ⟨_, List.getElem?_eq_getElem hlt⟩
            obtain ⟨y, hy⟩ : ∃ y, (provL (pksN I l) d)[j]? = some y := ⟨_, List.getElem?_eq_getElem (by omega)⟩
            have hxy : y < x := by
              have h1 := List.pairwise_iff_getElem.1 (show (provL (pksN I l) d).Pairwise (· < ·) from numL_rise _ _) j (j + 1) (by omega) hlt (by omega)
              rw [List.getElem?_eq_getElem hlt] at hx
              rw [List.getElem?_eq_getElem (by omega)] at hy
              injection hx with hx
              injection hy with hy
              rw [← hx, ← hy]
              exact h1
            obtain ⟨a', c', e1, h1⟩ := HA7.out.kept HKR.out
            injection e1 with e1 _ e3
            subst e1 e3
            obtain ⟨g, o, rfl, hg, cx⟩ := h1 (j + 1) x hx
            obtain ⟨g2, o2, e2, _, cy⟩ := h1 j y hy
            injection e2 with e2
            injection e2 with e2 e4 _
            subst e2 e4
            obtain ⟨T, F, t0, ht0, hFk, hFs⟩ := class_of wr
            have lx := fun t => ((hFk t).cell (p := ⟨g, o + (j + 1), none⟩) hg (fun h => h)).trans cx
            have ly := fun t => ((hFk t).cell (p := ⟨g, o + j, none⟩) hg (fun h => h)).trans cy
            have hle : decide (x ≤ y) = false := decide_eq_false (by omega)
            have hnle : ¬ x ≤ y := by omega
            have hi0' : (0 : Int) ≤ ((j + 1 : Nat) : Int) := by omega
            have hj00 : (0 : Int) ≤ (j : Int) := by omega
            have hjI2 : (j : Int) < ((provL (pksN I l) d).length : Int) := by omega
            have HFK := Lib.hid hFk
            have hnt : Nonempty T := ⟨t0⟩
            clear hx hy h1 hg cx cy hFk hFs hxy
            go_wp2_with fail
            refine wp_region_class F t0 ht0 (by kernel_rfl) (by kernel_rfl) ?_
            repeat (go_big_quiet_step (fail))
            refine wpQuiet_nil ?_
            rintro _ ⟨tz, rfl⟩
            have HKZ := Lib.hid (HKR.out.trans (HFK.out tz) (fun _ _ h => h))
            clear lx ly
            go_wp2_with fail
            go_roundw
            case rel => exact ⟨j + 1 + 1, by go_num, by omega, by have := HLA.out; omega, HKZ⟩
            case measure => simp [intOf]; omega
          · have hge : ¬ (i : Int) < ((provL (pksN I l) d).length : Int) := by omega
            clear hlt
            have HK8 := Lib.hid (HK7.out.trans HKR.out (fun _ _ h => h))
            have K8 := Lib.hid HKR.out
            clear HKR
            go_wp2_with fail
            go_loopw [15, 16] (fun v15 v16 wq => ∃ n : Nat, v15 = .int .i64 (metN (fun i => (pksN I l)[i]?.any fun p => provP p d) n : Int) ∧ v16 = .int .i64 (n : Int) ∧ n ≤ (pksN I l).length ∧ Hid (Kept (fun _ => False) wr wq)) (fun _ v16 _ => (pksN I l).length - (intOf v16).toNat)
            case atStart => exact ⟨0, rfl, rfl, Nat.zero_le _, Lib.hid (Kept.refl _ _)⟩
            case round =>
              obtain ⟨n, rfl, rfl, hn, HKQ⟩ := hrel
              rename World => wq
              have HWK := Lib.hid (K8.out.trans HKQ.out (fun _ _ h => h))
              obtain ⟨t1, t2⟩ := pool_tells13 (HP7.out.kept HWK.out (fun _ _ h => h)) HOK.out
              have HT1 := Lib.hid t1
              have HT2 := Lib.hid t2
              have HFW := Lib.hid HOK.out.few
              have hml := metN_le (fun i => (pksN I l)[i]?.any fun p => provP p d) n
              have hmb : metN (fun i => (pksN I l)[i]?.any fun p => provP p d) n ≤ 256 := by have := HFW.out; omega
              have hnb : n ≤ 256 := by have := HFW.out; omega
              clear t1 t2
              go_wp2_with fail
              refine (HT1.out wq (Kept.refl _ _)).mono ?_
              rintro e w8 ⟨rfl, hk8⟩
              have HK9 := Lib.hid hk8
              clear hk8
              by_cases hlt : n < (pksN I l).length
              · have hn0 : (0 : Int) ≤ (n : Int) := by omega
                have hnI : (n : Int) < ((pksN I l).length : Int) := by omega
                obtain ⟨p, hp⟩ : ∃ p, (pksN I l)[n]? = some p := ⟨_, List.getElem?_eq_getElem hlt⟩
                have HPP := Lib.hid hp
                have hT2 := Lib.hid (HT2.out w8 HK9.out n p hp)
                clear hp HT1 HT2
                go_wp2_with fail
                refine hT2.out.mono ?_
                rintro e w9 ⟨⟨s, rfl, hN⟩, hk9⟩
                have hPI := hN.here
                obtain ⟨s4, s5, s6, s7, s8, s9, s10, s11, s12⟩ := s
                obtain ⟨a4, c4, e4, _⟩ := hPI.pv
                obtain ⟨a5, c5, e5, _⟩ := hPI.rq
                obtain ⟨a6, c6, e6, _⟩ := hPI.cf
                obtain ⟨a7, c7, e7, _⟩ := hPI.ob
                obtain ⟨a8, c8, e8, _⟩ := hPI.rc
                obtain ⟨a9, c9, e9, _⟩ := hPI.sp
                obtain ⟨a10, c10, e10, _⟩ := hPI.sg
                obtain ⟨a11, c11, e11, _⟩ := hPI.en
                obtain ⟨a12, c12, e12, _⟩ := hPI.fi
                dsimp only at e4 e5 e6 e7 e8 e9 e10 e11 e12
                subst e4; subst e5; subst e6; subst e7; subst e8; subst e9; subst e10; subst e11; subst e12
                have hkb := (Kept.refl (fun _ => False) w9).alloc (.cells #[.string p.nm, .int .i64 p.n, .string p.v, .string p.r, .int .u8 (p.a : Int), .string p.vd, .slice a4 p.pv.length c4, .slice a5 p.rq.length c5, .slice a6 p.cf.length c6, .slice a7 p.ob.length c7, .slice a8 p.rc.length c8, .slice a9 p.sp.length c9, .slice a10 p.sg.length c10, .slice a11 p.en.length c11, .slice a12 p.fi.length c12] 48)
                have HBX := Lib.hid (Box.made w9 48 #[.string p.nm, .int .i64 p.n, .string p.v, .string p.r, .int .u8 (p.a : Int), .string p.vd, .slice a4 p.pv.length c4, .slice a5 p.rq.length c5, .slice a6 p.cf.length c6, .slice a7 p.ob.length c7, .slice a8 p.rc.length c8, .slice a9 p.sp.length c9, .slice a10 p.sg.length c10, .slice a11 p.en.length c11, .slice a12 p.fi.length c12])
                have HPI := Lib.hid (hPI.kept hkb)
                have HKA := Lib.hid ((HK9.out.trans hk9 (fun _ _ h => h)).trans hkb (fun _ _ h => h))
                clear hN hPI hkb hk9 hT2
                go_wp2_with fail
                generalize w9.alloc (.cells #[.string p.nm, .int .i64 p.n, .string p.v, .string p.r, .int .u8 (p.a : Int), .string p.vd, .slice a4 p.pv.length c4, .slice a5 p.rq.length c5, .slice a6 p.cf.length c6, .slice a7 p.ob.length c7, .slice a8 p.rc.length c8, .slice a9 p.sp.length c9, .slice a10 p.sg.length c10, .slice a11 p.en.length c11, .slice a12 p.fi.length c12] 48) = wb at HBX HPI HKA ⊢
                have HPF := Lib.hid (HOK.out.fits p (List.mem_of_getElem? HPP.out))
                have HLT := Lib.hid hlt
                have HWB := Lib.hid (HWK.out.trans HKA.out (fun _ _ h => h))
                have HAW := Lib.hid (HA7.out.kept HWB.out)
                have HBW := Lib.hid (HB7.out.kept HWB.out)
                have HCW := Lib.hid (HC.out.kept HWB.out)
                have HFW2 := Lib.hid (HF.out.kept HWB.out)
                have HDW := Lib.hid (HWB.out.box HD7.out (fun h => h))
                have hll : ∀ (f : Nat → Bool), (numL f (pksN I l).length).length ≤ 256 := fun f => by
                  rw [numL_len]
                  exact Nat.le_trans (metN_le _ _) HFW.out
                have HLB := Lib.hid (hll (fun i => (pksN I l)[i]?.any fun p => namedP p d))
                have HLC := Lib.hid (hll (fun i => (pksN I l)[i]?.any fun p => provP p (e13 d.nm 0 ⟨#[]⟩)))
                have HLF := Lib.hid (hll (fun i => (pksN I l)[i]?.any fun p => namedP p (e13 d.nm 0 ⟨#[]⟩)))
                change Hid ((namedL (pksN I l) d).length ≤ 256) at HLB
                change Hid ((provL (pksN I l) (e13 d.nm 0 ⟨#[]⟩)).length ≤ 256) at HLC
                change Hid ((namedL (pksN I l) (e13 d.nm 0 ⟨#[]⟩)).length ≤ 256) at HLF
                clear hll
                obtain ⟨gp, hgp⟩ : ∃ g, g = w9.heap.size := ⟨_, rfl⟩
                try rw [← hgp] at HBX
                try rw [← hgp]
                clear hgp hlt
                cases hbp : provP p d with
                | true =>
                  cases hbn : namedP p d with
                  | true =>
                    have HIA := Lib.hid (fun (W : World) (k : Kept (fun _ => False) wb W) => show Calls Tryz.prog 42 #[.slice aA (provL (pksN I l) d).length cA, .int .i64 (n : Int)] W (fun e w' => e = .returned (.bool true) ∧ Kept (fun _ => False) W w') from by
                      have h := in13_walk _ (provL (pksN I l) d) (n : Int) W (HAW.out.kept k) (by have := HLA.out; omega)
                      rw [show decide ((n : Int) ∈ provL (pksN I l) d) = true from (in_num13 HLT.out).trans (by rw [HPP.out]; exact hbp)] at h
                      exact h)
                    have HIB := Lib.hid (fun (W : World) (k : Kept (fun _ => False) wb W) => show Calls Tryz.prog 42 #[.slice aB (namedL (pksN I l) d).length cB, .int .i64 (n : Int)] W (fun e w' => e = .returned (.bool true) ∧ Kept (fun _ => False) W w') from by
                      have h := in13_walk _ (namedL (pksN I l) d) (n : Int) W (HBW.out.kept k) (by have := HLB.out; omega)
                      rw [show decide ((n : Int) ∈ namedL (pksN I l) d) = true from (in_num13 HLT.out).trans (by rw [HPP.out]; exact hbn)] at h
                      exact h)
                    have HIC := Lib.hid (fun (W : World) (k : Kept (fun _ => False) wb W) => show Calls Tryz.prog 42 #[.slice aC (provL (pksN I l) (e13 d.nm 0 ⟨#[]⟩)).length cC, .int .i64 (n : Int)] W (fun e w' => e = .returned (.bool true) ∧ Kept (fun _ => False) W w') from by
                      have h := in13_walk _ (provL (pksN I l) (e13 d.nm 0 ⟨#[]⟩)) (n : Int) W (HCW.out.kept k) (by have := HLC.out; omega)
                      rw [show decide ((n : Int) ∈ provL (pksN I l) (e13 d.nm 0 ⟨#[]⟩)) = true from (in_num13 HLT.out).trans (by rw [HPP.out]; exact prov_n0 hbp)] at h
                      exact h)
                    have HIF := Lib.hid (fun (W : World) (k : Kept (fun _ => False) wb W) => show Calls Tryz.prog 42 #[.slice aF (namedL (pksN I l) (e13 d.nm 0 ⟨#[]⟩)).length cF, .int .i64 (n : Int)] W (fun e w' => e = .returned (.bool true) ∧ Kept (fun _ => False) W w') from by
                      have h := in13_walk _ (namedL (pksN I l) (e13 d.nm 0 ⟨#[]⟩)) (n : Int) W (HFW2.out.kept k) (by have := HLF.out; omega)
                      rw [show decide ((n : Int) ∈ namedL (pksN I l) (e13 d.nm 0 ⟨#[]⟩)) = true from (in_num13 HLT.out).trans (by rw [HPP.out]; exact named_n0 hbn)] at h
                      exact h)
                    have HPC := Lib.hid (fun (W : World) (k : Kept (fun _ => False) wb W) => show Calls Tryz.prog 43 #[.agg #[.string p.nm, .int .i64 p.n, .string p.v, .string p.r, .int .u8 (p.a : Int), .string p.vd, .slice a4 p.pv.length c4, .slice a5 p.rq.length c5, .slice a6 p.cf.length c6, .slice a7 p.ob.length c7, .slice a8 p.rc.length c8, .slice a9 p.sp.length c9, .slice a10 p.sg.length c10, .slice a11 p.en.length c11, .slice a12 p.fi.length c12], .agg #[.string d.nm, .int .u8 (d.o : Int), .int .i64 d.n, .string d.v, .string d.r]] W (fun e w' => e = .returned (.bool true) ∧ Kept (fun _ => False) W w') from by
                      have h := prov10_walk p ⟨.slice a4 p.pv.length c4, .slice a5 p.rq.length c5, .slice a6 p.cf.length c6, .slice a7 p.ob.length c7, .slice a8 p.rc.length c8, .slice a9 p.sp.length c9, .slice a10 p.sg.length c10, .slice a11 p.en.length c11, .slice a12 p.fi.length c12⟩ d W (HPI.out.kept k) HPF.out.pvl HPF.out.fil (fun e he => de_ok13 (HPF.out.pv e he)) (by have := HPF.out.nm; omega) (by have := HPF.out.v; omega) (by have := HPF.out.r; omega) (de_ok13 HDF.out)
                      rw [show provB p.pv p.fi p.nm p.n p.v p.r d = true from hbp] at h
                      exact h)
                    have HNC := Lib.hid (fun (W : World) (k : Kept (fun _ => False) wb W) => show Calls Tryz.prog 44 #[.agg #[.string p.nm, .int .i64 p.n, .string p.v, .string p.r, .int .u8 (p.a : Int), .string p.vd, .slice a4 p.pv.length c4, .slice a5 p.rq.length c5, .slice a6 p.cf.length c6, .slice a7 p.ob.length c7, .slice a8 p.rc.length c8, .slice a9 p.sp.length c9, .slice a10 p.sg.length c10, .slice a11 p.en.length c11, .slice a12 p.fi.length c12], .agg #[.string d.nm, .int .u8 (d.o : Int), .int .i64 d.n, .string d.v, .string d.r]] W (fun e w' => e = .returned (.bool true) ∧ Kept (fun _ => False) W w') from by
                      have h := named10_walk p ⟨.slice a4 p.pv.length c4, .slice a5 p.rq.length c5, .slice a6 p.cf.length c6, .slice a7 p.ob.length c7, .slice a8 p.rc.length c8, .slice a9 p.sp.length c9, .slice a10 p.sg.length c10, .slice a11 p.en.length c11, .slice a12 p.fi.length c12⟩ d W (by have := HPF.out.nm; omega) (by have := HPF.out.v; omega) (by have := HPF.out.r; omega) (de_ok13 HDF.out)
                      rw [show namedB p.nm p.n p.v p.r d = true from hbn] at h
                      exact h)
                    have HMS := Lib.hid (show metN (fun i => (pksN I l)[i]?.any fun p => provP p d) (n + 1) = metN (fun i => (pksN I l)[i]?.any fun p => provP p d) n + 1 from by
                      rw [metN_succ, show (pksN I l)[n]?.any (fun p => provP p d) = true from by rw [HPP.out]; exact hbp]
                      rfl)
                    clear hbp hbn
                    obtain ⟨T, F, t0, ht0, hFk, hFs⟩ := class_of wb
                    have lP := fun t => run_loadPq (g := gp) (o := 0) (cs := #[.string p.nm, .int .i64 p.n, .string p.v, .string p.r, .int .u8 (p.a : Int), .string p.vd, .slice a4 p.pv.length c4, .slice a5 p.rq.length c5, .slice a6 p.cf.length c6, .slice a7 p.ob.length c7, .slice a8 p.rc.length c8, .slice a9 p.sp.length c9, .slice a10 p.sg.length c10, .slice a11 p.en.length c11, .slice a12 p.fi.length c12]) (w := F t) (fun j x hx => by rw [Nat.zero_add, ((hFk t).box HBX.out (fun h => h)).cell]; exact hx) rfl
                    have lD0 := fun t => ((hFk t).box HDW.out (fun h => h)).cell 0
                    have lD1 := fun t => ((hFk t).box HDW.out (fun h => h)).cell 1
                    have lD2 := fun t => ((hFk t).box HDW.out (fun h => h)).cell 2
                    have lD3 := fun t => ((hFk t).box HDW.out (fun h => h)).cell 3
                    have lD4 := fun t => ((hFk t).box HDW.out (fun h => h)).cell 4
                    have kA := fun t => HIA.out (F t) (hFk t)
                    have kB := fun t => HIB.out (F t) (hFk t)
                    have kC := fun t => HIC.out (F t) (hFk t)
                    have kF := fun t => HIF.out (F t) (hFk t)
                    have kP := fun t => HPC.out (F t) (hFk t)
                    have kN := fun t => HNC.out (F t) (hFk t)
                    have HFK := Lib.hid hFk
                    have HFS := Lib.hid hFs
                    have hnt : Nonempty T := ⟨t0⟩
                    clear hFk hFs
                    refine wp_region_class F t0 ht0 (by kernel_rfl) (by kernel_rfl) ?_
                    repeat (go_big_quiet_step (first
                      | (go_at_call 42; with_reducible exact class_call HFS.out (kA _))
                      | (go_at_call 42; with_reducible exact class_call HFS.out (kB _))
                      | (go_at_call 42; with_reducible exact class_call HFS.out (kC _))
                      | (go_at_call 42; with_reducible exact class_call HFS.out (kF _))
                      | (go_at_call 43; with_reducible exact class_call HFS.out (kP _))
                      | (go_at_call 44; with_reducible exact class_call HFS.out (kN _))))
                    refine wpQuiet_nil ?_
                    rintro _ ⟨tz, rfl⟩
                    have KZ := HFK.out tz
                    have HKZ := Lib.hid (HKA.out.trans KZ (fun _ _ h => h))
                    have HLAST := Lib.hid (HIA.out (F tz) KZ)
                    clear lP lD0 lD1 lD2 lD3 lD4 kA kB kP kN KZ HIA HIB HPC HNC
                    go_wp2_with fail
                    refine HLAST.out.mono ?_
                    rintro e wl ⟨rfl, hkl⟩
                    have HKL := Lib.hid ((HKQ.out.trans HKZ.out (fun _ _ h => h)).trans hkl (fun _ _ h => h))
                    clear hkl
                    go_wp2_with fail
                    go_roundw
                    case rel => exact ⟨n + 1, by rw [HMS.out]; go_num, by go_num, by omega, HKL⟩
                    case measure => simp [intOf]; omega
                  | false =>
                    have HIA := Lib.hid (fun (W : World) (k : Kept (fun _ => False) wb W) => show Calls Tryz.prog 42 #[.slice aA (provL (pksN I l) d).length cA, .int .i64 (n : Int)] W (fun e w' => e = .returned (.bool true) ∧ Kept (fun _ => False) W w') from by
                      have h := in13_walk _ (provL (pksN I l) d) (n : Int) W (HAW.out.kept k) (by have := HLA.out; omega)
                      rw [show decide ((n : Int) ∈ provL (pksN I l) d) = true from (in_num13 HLT.out).trans (by rw [HPP.out]; exact hbp)] at h
                      exact h)
                    have HIB := Lib.hid (fun (W : World) (k : Kept (fun _ => False) wb W) => show Calls Tryz.prog 42 #[.slice aB (namedL (pksN I l) d).length cB, .int .i64 (n : Int)] W (fun e w' => e = .returned (.bool false) ∧ Kept (fun _ => False) W w') from by
                      have h := in13_walk _ (namedL (pksN I l) d) (n : Int) W (HBW.out.kept k) (by have := HLB.out; omega)
                      rw [show decide ((n : Int) ∈ namedL (pksN I l) d) = false from (in_num13 HLT.out).trans (by rw [HPP.out]; exact hbn)] at h
                      exact h)
                    have HIC := Lib.hid (fun (W : World) (k : Kept (fun _ => False) wb W) => show Calls Tryz.prog 42 #[.slice aC (provL (pksN I l) (e13 d.nm 0 ⟨#[]⟩)).length cC, .int .i64 (n : Int)] W (fun e w' => e = .returned (.bool true) ∧ Kept (fun _ => False) W w') from by
                      have h := in13_walk _ (provL (pksN I l) (e13 d.nm 0 ⟨#[]⟩)) (n : Int) W (HCW.out.kept k) (by have := HLC.out; omega)
                      rw [show decide ((n : Int) ∈ provL (pksN I l) (e13 d.nm 0 ⟨#[]⟩)) = true from (in_num13 HLT.out).trans (by rw [HPP.out]; exact prov_n0 hbp)] at h
                      exact h)
                    have HPC := Lib.hid (fun (W : World) (k : Kept (fun _ => False) wb W) => show Calls Tryz.prog 43 #[.agg #[.string p.nm, .int .i64 p.n, .string p.v, .string p.r, .int .u8 (p.a : Int), .string p.vd, .slice a4 p.pv.length c4, .slice a5 p.rq.length c5, .slice a6 p.cf.length c6, .slice a7 p.ob.length c7, .slice a8 p.rc.length c8, .slice a9 p.sp.length c9, .slice a10 p.sg.length c10, .slice a11 p.en.length c11, .slice a12 p.fi.length c12], .agg #[.string d.nm, .int .u8 (d.o : Int), .int .i64 d.n, .string d.v, .string d.r]] W (fun e w' => e = .returned (.bool true) ∧ Kept (fun _ => False) W w') from by
                      have h := prov10_walk p ⟨.slice a4 p.pv.length c4, .slice a5 p.rq.length c5, .slice a6 p.cf.length c6, .slice a7 p.ob.length c7, .slice a8 p.rc.length c8, .slice a9 p.sp.length c9, .slice a10 p.sg.length c10, .slice a11 p.en.length c11, .slice a12 p.fi.length c12⟩ d W (HPI.out.kept k) HPF.out.pvl HPF.out.fil (fun e he => de_ok13 (HPF.out.pv e he)) (by have := HPF.out.nm; omega) (by have := HPF.out.v; omega) (by have := HPF.out.r; omega) (de_ok13 HDF.out)
                      rw [show provB p.pv p.fi p.nm p.n p.v p.r d = true from hbp] at h
                      exact h)
                    have HNC := Lib.hid (fun (W : World) (k : Kept (fun _ => False) wb W) => show Calls Tryz.prog 44 #[.agg #[.string p.nm, .int .i64 p.n, .string p.v, .string p.r, .int .u8 (p.a : Int), .string p.vd, .slice a4 p.pv.length c4, .slice a5 p.rq.length c5, .slice a6 p.cf.length c6, .slice a7 p.ob.length c7, .slice a8 p.rc.length c8, .slice a9 p.sp.length c9, .slice a10 p.sg.length c10, .slice a11 p.en.length c11, .slice a12 p.fi.length c12], .agg #[.string d.nm, .int .u8 (d.o : Int), .int .i64 d.n, .string d.v, .string d.r]] W (fun e w' => e = .returned (.bool false) ∧ Kept (fun _ => False) W w') from by
                      have h := named10_walk p ⟨.slice a4 p.pv.length c4, .slice a5 p.rq.length c5, .slice a6 p.cf.length c6, .slice a7 p.ob.length c7, .slice a8 p.rc.length c8, .slice a9 p.sp.length c9, .slice a10 p.sg.length c10, .slice a11 p.en.length c11, .slice a12 p.fi.length c12⟩ d W (by have := HPF.out.nm; omega) (by have := HPF.out.v; omega) (by have := HPF.out.r; omega) (de_ok13 HDF.out)
                      rw [show namedB p.nm p.n p.v p.r d = false from hbn] at h
                      exact h)
                    have HMS := Lib.hid (show metN (fun i => (pksN I l)[i]?.any fun p => provP p d) (n + 1) = metN (fun i => (pksN I l)[i]?.any fun p => provP p d) n + 1 from by
                      rw [metN_succ, show (pksN I l)[n]?.any (fun p => provP p d) = true from by rw [HPP.out]; exact hbp]
                      rfl)
                    clear hbp hbn
                    obtain ⟨T, F, t0, ht0, hFk, hFs⟩ := class_of wb
                    have lP := fun t => run_loadPq (g := gp) (o := 0) (cs := #[.string p.nm, .int .i64 p.n, .string p.v, .string p.r, .int .u8 (p.a : Int), .string p.vd, .slice a4 p.pv.length c4, .slice a5 p.rq.length c5, .slice a6 p.cf.length c6, .slice a7 p.ob.length c7, .slice a8 p.rc.length c8, .slice a9 p.sp.length c9, .slice a10 p.sg.length c10, .slice a11 p.en.length c11, .slice a12 p.fi.length c12]) (w := F t) (fun j x hx => by rw [Nat.zero_add, ((hFk t).box HBX.out (fun h => h)).cell]; exact hx) rfl
                    have lD0 := fun t => ((hFk t).box HDW.out (fun h => h)).cell 0
                    have lD1 := fun t => ((hFk t).box HDW.out (fun h => h)).cell 1
                    have lD2 := fun t => ((hFk t).box HDW.out (fun h => h)).cell 2
                    have lD3 := fun t => ((hFk t).box HDW.out (fun h => h)).cell 3
                    have lD4 := fun t => ((hFk t).box HDW.out (fun h => h)).cell 4
                    have kA := fun t => HIA.out (F t) (hFk t)
                    have kB := fun t => HIB.out (F t) (hFk t)
                    have kC := fun t => HIC.out (F t) (hFk t)
                    skip
                    have kP := fun t => HPC.out (F t) (hFk t)
                    have kN := fun t => HNC.out (F t) (hFk t)
                    have HFK := Lib.hid hFk
                    have HFS := Lib.hid hFs
                    have hnt : Nonempty T := ⟨t0⟩
                    clear hFk hFs
                    refine wp_region_class F t0 ht0 (by kernel_rfl) (by kernel_rfl) ?_
                    repeat (go_big_quiet_step (first
                      | (go_at_call 42; with_reducible exact class_call HFS.out (kA _))
                      | (go_at_call 42; with_reducible exact class_call HFS.out (kB _))
                      | (go_at_call 42; with_reducible exact class_call HFS.out (kC _))
                      | fail
                      | (go_at_call 43; with_reducible exact class_call HFS.out (kP _))
                      | (go_at_call 44; with_reducible exact class_call HFS.out (kN _))))
                    refine wpQuiet_nil ?_
                    rintro _ ⟨tz, rfl⟩
                    have KZ := HFK.out tz
                    have HKZ := Lib.hid (HKA.out.trans KZ (fun _ _ h => h))
                    have HLAST := Lib.hid (HIA.out (F tz) KZ)
                    clear lP lD0 lD1 lD2 lD3 lD4 kA kB kP kN KZ HIA HIB HPC HNC
                    go_wp2_with fail
                    refine HLAST.out.mono ?_
                    rintro e wl ⟨rfl, hkl⟩
                    have HKL := Lib.hid ((HKQ.out.trans HKZ.out (fun _ _ h => h)).trans hkl (fun _ _ h => h))
                    clear hkl
                    go_wp2_with fail
                    go_roundw
                    case rel => exact ⟨n + 1, by rw [HMS.out]; go_num, by go_num, by omega, HKL⟩
                    case measure => simp [intOf]; omega
                | false =>
                  cases hbn : namedP p d with
                  | true => exact absurd ((named_prov hbn).symm.trans hbp) (by decide)
                  | false =>
                    have HIA := Lib.hid (fun (W : World) (k : Kept (fun _ => False) wb W) => show Calls Tryz.prog 42 #[.slice aA (provL (pksN I l) d).length cA, .int .i64 (n : Int)] W (fun e w' => e = .returned (.bool false) ∧ Kept (fun _ => False) W w') from by
                      have h := in13_walk _ (provL (pksN I l) d) (n : Int) W (HAW.out.kept k) (by have := HLA.out; omega)
                      rw [show decide ((n : Int) ∈ provL (pksN I l) d) = false from (in_num13 HLT.out).trans (by rw [HPP.out]; exact hbp)] at h
                      exact h)
                    have HIB := Lib.hid (fun (W : World) (k : Kept (fun _ => False) wb W) => show Calls Tryz.prog 42 #[.slice aB (namedL (pksN I l) d).length cB, .int .i64 (n : Int)] W (fun e w' => e = .returned (.bool false) ∧ Kept (fun _ => False) W w') from by
                      have h := in13_walk _ (namedL (pksN I l) d) (n : Int) W (HBW.out.kept k) (by have := HLB.out; omega)
                      rw [show decide ((n : Int) ∈ namedL (pksN I l) d) = false from (in_num13 HLT.out).trans (by rw [HPP.out]; exact hbn)] at h
                      exact h)
                    have HPC := Lib.hid (fun (W : World) (k : Kept (fun _ => False) wb W) => show Calls Tryz.prog 43 #[.agg #[.string p.nm, .int .i64 p.n, .string p.v, .string p.r, .int .u8 (p.a : Int), .string p.vd, .slice a4 p.pv.length c4, .slice a5 p.rq.length c5, .slice a6 p.cf.length c6, .slice a7 p.ob.length c7, .slice a8 p.rc.length c8, .slice a9 p.sp.length c9, .slice a10 p.sg.length c10, .slice a11 p.en.length c11, .slice a12 p.fi.length c12], .agg #[.string d.nm, .int .u8 (d.o : Int), .int .i64 d.n, .string d.v, .string d.r]] W (fun e w' => e = .returned (.bool false) ∧ Kept (fun _ => False) W w') from by
                      have h := prov10_walk p ⟨.slice a4 p.pv.length c4, .slice a5 p.rq.length c5, .slice a6 p.cf.length c6, .slice a7 p.ob.length c7, .slice a8 p.rc.length c8, .slice a9 p.sp.length c9, .slice a10 p.sg.length c10, .slice a11 p.en.length c11, .slice a12 p.fi.length c12⟩ d W (HPI.out.kept k) HPF.out.pvl HPF.out.fil (fun e he => de_ok13 (HPF.out.pv e he)) (by have := HPF.out.nm; omega) (by have := HPF.out.v; omega) (by have := HPF.out.r; omega) (de_ok13 HDF.out)
                      rw [show provB p.pv p.fi p.nm p.n p.v p.r d = false from hbp] at h
                      exact h)
                    have HNC := Lib.hid (fun (W : World) (k : Kept (fun _ => False) wb W) => show Calls Tryz.prog 44 #[.agg #[.string p.nm, .int .i64 p.n, .string p.v, .string p.r, .int .u8 (p.a : Int), .string p.vd, .slice a4 p.pv.length c4, .slice a5 p.rq.length c5, .slice a6 p.cf.length c6, .slice a7 p.ob.length c7, .slice a8 p.rc.length c8, .slice a9 p.sp.length c9, .slice a10 p.sg.length c10, .slice a11 p.en.length c11, .slice a12 p.fi.length c12], .agg #[.string d.nm, .int .u8 (d.o : Int), .int .i64 d.n, .string d.v, .string d.r]] W (fun e w' => e = .returned (.bool false) ∧ Kept (fun _ => False) W w') from by
                      have h := named10_walk p ⟨.slice a4 p.pv.length c4, .slice a5 p.rq.length c5, .slice a6 p.cf.length c6, .slice a7 p.ob.length c7, .slice a8 p.rc.length c8, .slice a9 p.sp.length c9, .slice a10 p.sg.length c10, .slice a11 p.en.length c11, .slice a12 p.fi.length c12⟩ d W (by have := HPF.out.nm; omega) (by have := HPF.out.v; omega) (by have := HPF.out.r; omega) (de_ok13 HDF.out)
                      rw [show namedB p.nm p.n p.v p.r d = false from hbn] at h
                      exact h)
                    have HMS := Lib.hid (show metN (fun i => (pksN I l)[i]?.any fun p => provP p d) (n + 1) = metN (fun i => (pksN I l)[i]?.any fun p => provP p d) n + 0 from by
                      rw [metN_succ, show (pksN I l)[n]?.any (fun p => provP p d) = false from by rw [HPP.out]; exact hbp]
                      rfl)
                    clear hbp hbn
                    obtain ⟨T, F, t0, ht0, hFk, hFs⟩ := class_of wb
                    have lP := fun t => run_loadPq (g := gp) (o := 0) (cs := #[.string p.nm, .int .i64 p.n, .string p.v, .string p.r, .int .u8 (p.a : Int), .string p.vd, .slice a4 p.pv.length c4, .slice a5 p.rq.length c5, .slice a6 p.cf.length c6, .slice a7 p.ob.length c7, .slice a8 p.rc.length c8, .slice a9 p.sp.length c9, .slice a10 p.sg.length c10, .slice a11 p.en.length c11, .slice a12 p.fi.length c12]) (w := F t) (fun j x hx => by rw [Nat.zero_add, ((hFk t).box HBX.out (fun h => h)).cell]; exact hx) rfl
                    have lD0 := fun t => ((hFk t).box HDW.out (fun h => h)).cell 0
                    have lD1 := fun t => ((hFk t).box HDW.out (fun h => h)).cell 1
                    have lD2 := fun t => ((hFk t).box HDW.out (fun h => h)).cell 2
                    have lD3 := fun t => ((hFk t).box HDW.out (fun h => h)).cell 3
                    have lD4 := fun t => ((hFk t).box HDW.out (fun h => h)).cell 4
                    have kA := fun t => HIA.out (F t) (hFk t)
                    have kB := fun t => HIB.out (F t) (hFk t)
                    skip
                    skip
                    have kP := fun t => HPC.out (F t) (hFk t)
                    have kN := fun t => HNC.out (F t) (hFk t)
                    have HFK := Lib.hid hFk
                    have HFS := Lib.hid hFs
                    have hnt : Nonempty T := ⟨t0⟩
                    clear hFk hFs
                    refine wp_region_class F t0 ht0 (by kernel_rfl) (by kernel_rfl) ?_
                    repeat (go_big_quiet_step (first
                      | (go_at_call 42; with_reducible exact class_call HFS.out (kA _))
                      | (go_at_call 42; with_reducible exact class_call HFS.out (kB _))
                      | fail
                      | fail
                      | (go_at_call 43; with_reducible exact class_call HFS.out (kP _))
                      | (go_at_call 44; with_reducible exact class_call HFS.out (kN _))))
                    refine wpQuiet_nil ?_
                    rintro _ ⟨tz, rfl⟩
                    have KZ := HFK.out tz
                    have HKZ := Lib.hid (HKA.out.trans KZ (fun _ _ h => h))
                    have HLAST := Lib.hid (HIA.out (F tz) KZ)
                    clear lP lD0 lD1 lD2 lD3 lD4 kA kB kP kN KZ HIA HIB HPC HNC
                    go_wp2_with fail
                    refine HLAST.out.mono ?_
                    rintro e wl ⟨rfl, hkl⟩
                    have HKL := Lib.hid ((HKQ.out.trans HKZ.out (fun _ _ h => h)).trans hkl (fun _ _ h => h))
                    clear hkl
                    go_wp2_with fail
                    go_roundw
                    case rel => exact ⟨n + 1, by rw [HMS.out]; rfl, by go_num, by omega, HKL⟩
                    case measure => simp [intOf]; omega
              · obtain rfl : n = (pksN I l).length := by omega
                have hge : ¬ ((pksN I l).length : Int) < ((pksN I l).length : Int) := by omega
                have hfin : (provL (pksN I l) d).length = metN (fun i => (pksN I l)[i]?.any fun p => provP p d) (pksN I l).length := numL_len _ _
                have HFIN := Lib.hid hfin
                have HKE := Lib.hid ((HK8.out.trans HKQ.out (fun _ _ h => h)).trans HK9.out (fun _ _ h => h))
                have heq : ((metN (fun i => (pksN I l)[i]?.any fun p => provP p d) (pksN I l).length : Int) == ((provL (pksN I l) d).length : Int)) = true := by rw [hfin]; exact beq_self_eq_true _
                clear hlt hn hfin
                go_wp2_with fail
                go_ret
                exact ⟨by first | rfl | (simp; have := HFIN.out; omega), HKE.out⟩
end Go.Proofs.YthjllgfceookcaaGreatDoor
