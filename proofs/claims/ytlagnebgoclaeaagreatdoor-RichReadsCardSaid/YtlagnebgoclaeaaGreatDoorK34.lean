/-
  The walks over the document's reader of layer 8: a plain dependency of an Op. What the walk over a part in parentheses asks (the document's reader of layer 8). Conditions: as each theorem states.
-/
import Derived.Test.YtlagnebgoclaeaaGreatDoorK33
import Derived.Test.YtlagnebgoclaeaaGreatDoorK07
import Derived.Test.YtlagnebgoclaeaaGreatDoorK09
import Derived.Test.YtlagnebgoclaeaaGreatDoorK10
namespace Go.Proofs.YtlagnebgoclaeaaGreatDoor
open Go.RowKit Rich Lex Span

set_option maxRecDepth 100000 in
set_option maxHeartbeats 8000000 in
theorem readD_plain2 {w : World} {G e n i o : Nat} {L : List Wd} {ao : Option Addr} {cp : Nat} (h : RdD w G e L i n ao cp) {t : List UInt8} {p : Nat} {s : List UInt8} {ps : Nat} (hd : L.drop i = (t, p) :: [(s, ps)]) (hop : (parseL s).2 = true) (hop0 : (parseL s).1 ≠ 0) {r : Res} (hrr : finF [t, s] p (n + 1) [] = r) (h0 : t ≠ []) (h1 : t ≠ [41]) (h2 : t ≠ [40]) (hn : n + 1 ≤ 24) (hsz : ∀ q ∈ L, q.1.length ≤ 1000000) :
    Calls Tryz.prog 35 #[.pointer (some ⟨G, 0, none⟩), .int .i64 (o : Int)] w (ReadD w G e L ao cp r) := by
  have hr0 := h.alloc (.cells #[.int .u8 0, .string ⟨#[]⟩, .int .u8 0, .int .i64 0, .string ⟨#[]⟩, .string ⟨#[]⟩, .slice none 0 0] 28)
  have HB0 := Lib.hid (Box.made w 28 #[.int .u8 0, .string ⟨#[]⟩, .int .u8 0, .int .i64 0, .string ⟨#[]⟩, .string ⟨#[]⟩, .slice none 0 0])
  have hlt := h.box.lt
  have hfew := h.few
  have hGne : G ≠ w.heap.size := by omega
  have hGne' : w.heap.size ≠ G := by omega
  have NC1 := nextD_walk hr0
  obtain ⟨hgt, hd1, hilt⟩ := drop_get hd
  have e0 : (headD (L.drop i)).toList.isEmpty = false := by rw [headD_empty, hd]; exact decide_eq_false h0
  have e1 : ((headD (L.drop i)).toList == [41]) = false := by rw [headD_eqB, hd]; exact decide_eq_false h1
  have e2 : ((headD (L.drop i)).toList == [40]) = false := by rw [headD_eqB, hd]; exact decide_eq_false h2
  obtain ⟨hb, hbb⟩ : ∃ hb, hb = headD (L.drop i) := ⟨_, rfl⟩
  have HBB := Lib.hid (show hb.data.toList = t by rw [hbb, headD_data, hd]; rfl)
  rw [show placeW e (L.drop i) = p by rw [hd]; rfl] at NC1
  rw [← hbb] at NC1 e0 e1 e2
  obtain ⟨n1, hn1⟩ : ∃ n1, n1 = n + 1 := ⟨_, rfl⟩
  obtain ⟨i1, hi1⟩ : ∃ i1, i1 = i + 1 := ⟨_, rfl⟩
  have HN1 := Lib.hid (show ((n : Int) + 1) = (n1 : Int) by omega)
  have HI1 := Lib.hid (show ((i : Int) + 1) = (i1 : Int) by omega)
  have hn24 : (n : Int) + 1 ≤ 24 := by omega
  have hn0 : n1 ≤ 24 := by omega
  have hil : i1 ≤ L.length := by omega
  have htz : t.length ≤ 1000000 := hsz (t, p) (List.mem_of_getElem? hgt)
  obtain ⟨i0, hi, hz0, hz1, hz2⟩ := info_parts info_str
  obtain ⟨hgs, hd2, hslt⟩ := drop_get hd1
  have hsz2 : s.length ≤ 1000000 := hsz (s, ps) (List.mem_of_getElem? hgs)
  have hend : i + 1 + 1 = L.length := by
    have := congrArg List.length hd2
    simp at this
    omega
  obtain ⟨sb, hsb⟩ : ∃ sb, sb = headD [(s, ps)] := ⟨_, rfl⟩
  have HSB := Lib.hid hsb
  have HSD := Lib.hid (show sb.data.toList = s by rw [hsb]; rfl)
  obtain ⟨eb, heb⟩ : ∃ eb, eb = headD [] := ⟨_, rfl⟩
  have HEB := Lib.hid heb
  obtain ⟨op, ok, hpl⟩ : ∃ op ok, parseL s = (op, ok) := ⟨_, _, rfl⟩
  have HPL := Lib.hid (show parseL sb.data.toList = (op, ok) by rw [HSD.out]; exact hpl)
  rw [hpl] at hop hop0
  simp only at hop hop0
  subst hop
  have hopb : ((op : Int) == 0) = false := beq_eq_false_iff_ne.2 (by omega)
  have HTL := Lib.hid (show textsB [hb, sb] = [t, s] by simp [textsB, HBB.out, HSD.out])
  have HSZ := Lib.hid (show ∀ u ∈ [hb, sb], u.size ≤ 1000000 from fun u hu => by
    simp at hu
    rcases hu with rfl | rfl
    · show u.data.size ≤ 1000000
      rw [← Array.length_toList, HBB.out]
      exact htz
    · show u.data.size ≤ 1000000
      rw [← Array.length_toList, HSD.out]
      exact hsz2
  )
  generalize [t, s] = tl at *
  have HRR := Lib.hid (show (match Dep.ofD tl with | some d => Except.ok (.mk 1 d [], n1, []) | none => .error (p, 4)) = r by rw [hn1]; exact hrr)
  obtain ⟨i2, hi2⟩ : ∃ i2, i2 = i1 + 1 := ⟨_, rfl⟩
  obtain ⟨i3, hi3⟩ : ∃ i3, i3 = i2 + 1 := ⟨_, rfl⟩
  have HI2 := Lib.hid (show ((i1 : Int) + 1) = (i2 : Int) by omega)
  have HI3 := Lib.hid (show ((i2 : Int) + 1) = (i3 : Int) by omega)
  have hi2l : i2 ≤ L.length := by omega
  have hlt2 : ¬ (i2 : Int) < (L.length : Int) := by omega
  have HDR := Lib.hid (show L.drop i2 = [] by rw [hi2, hi1]; exact hd2)
  rw [← hi1] at hd1 hd2
  rw [← hi2] at hd2
  have hi2s : i2 = i1 + 1 ∧ i2 ≤ 5001 := ⟨hi2, by omega⟩
  clear h hd h0 h1 h2 hn hsz hbb hn1 hi1 hgt hrr hsb heb hpl hop0 hi2 hi3 hgs hend hi2s
  go_enter Tryz.func35, Tryz.ntmps35
  go_wp2_with fail
  refine NC1.mono ?_
  rintro ee w1 ⟨rfl, hk1⟩
  have HB1 := Lib.hid (hk1.box HB0.out (fun h => h))
  have hr1 := hr0.keep hk1 (fun _ _ h => h)
  have HK1 := Lib.hid (((Kept.refl (fun b => b = G) w).alloc (.cells #[.int .u8 0, .string ⟨#[]⟩, .int .u8 0, .int .i64 0, .string ⟨#[]⟩, .string ⟨#[]⟩, .slice none 0 0] 28)).trans hk1 (fun _ _ h => h.elim))
  have hs1 := HB1.out.lt
  have c2 : w1.cell? ⟨G, 2, none⟩ = some (.int .i64 (i : Int)) := hr1.box.cell 2
  have u2 := hr1.box.free 2
  have c3 : w1.cell? ⟨G, 3, none⟩ = some (.int .i64 (n : Int)) := hr1.box.cell 3
  have u3 := hr1.box.free 3
  have hr9 := (hr1.num (.int .i64 ((n : Int) + 1)) n1 (by omega) (by rw [HN1.out])).at (.int .i64 ((i : Int) + 1)) i1 (by omega) (by rw [HI1.out])
  have HB9 := Lib.hid (((HB1.out.off (p := ⟨G, 3, none⟩) hGne' (u := .int .i64 ((n : Int) + 1))).off (p := ⟨G, 2, none⟩) hGne' (u := .int .i64 ((i : Int) + 1))))
  have HK9 := Lib.hid ((HK1.out.setCell (p := ⟨G, 3, none⟩) (.inl rfl) (.int .i64 ((n : Int) + 1))).setCell (p := ⟨G, 2, none⟩) (.inl rfl) (.int .i64 ((i : Int) + 1)))
  have NC2 := nextD_walk (hr9.alloc (.cells #[.string hb] 9))
  rw [hd1, ← HSB.out] at NC2
  have HW9 := Lib.hid (Box.made ((w1.setCell ⟨G, 3, none⟩ (.int .i64 ((n : Int) + 1))).setCell ⟨G, 2, none⟩ (.int .i64 ((i : Int) + 1))) 9 #[.string hb])
  have hr9a := hr9.alloc (.cells #[.string hb] 9)
  have HB9a := Lib.hid (HB9.out.after_alloc (.cells #[.string hb] 9))
  have HK9a := Lib.hid (HK9.out.alloc (.cells #[.string hb] 9))
  simp only [World.size_setCell] at HW9
  clear hk1 hr1
  go_wp2_with fail
  refine NC2.mono ?_
  rintro ee w3 ⟨rfl, hk3⟩
  have HB3 := Lib.hid (hk3.box HB9a.out (fun h => h))
  have hr3 := hr9a.keep hk3 (fun _ _ h => h)
  have HL3 := Lib.hid (hk3.box HW9.out (fun h => h))
  have HK3 := Lib.hid (HK9a.out.trans hk3 (fun _ _ h => h.elim))
  have PC := parse4 sb w3
  rw [show parseL sb.data.toList = (op, true) from HPL.out] at PC
  clear hk3 hr9 hr9a NC2 c2 u2 c3 u3
  go_wp2_with fail
  refine PC.mono ?_
  rintro ee w4 ⟨rfl, hk4⟩
  have HB4 := Lib.hid (hk4.box HB3.out (fun h => h))
  have hr4 := hr3.keep hk4 (fun _ _ h => h)
  have HL4 := Lib.hid (hk4.box HL3.out (fun h => h))
  have HK4 := Lib.hid (HK3.out.trans hk4 (fun _ _ h => h.elim))
  have hs4 := hk4.size
  have hs3 := HL3.out.lt
  clear hk4 hr3 PC
  have hl4 := HL4.out.lt
  go_wp2_with (first
    | (at_builtin; (refine wpList_append_own_at _ rfl _ _ 32 rfl w1.heap.size 9 i0 (.string ⟨#[]⟩) 1 16 Tryz.underlying32 hi hz0 hz1 hz2 rfl (by decide) (.slice (some ⟨w1.heap.size, 0, none⟩) 1 1) _ _ rfl ((box_own1 HL4.out).alloc _) ⟨w4.heap.size, 0, none⟩ 1 1 [.string sb] rfl rfl (one_cell (Box.made _ 9 _)) (fun u hu => cellsS_one [sb] u hu) (by unfold maxLen; omega) (by omega) (by simp; omega) ?_; intro v5 w5 hown5 hgrow5 _ _; obtain ⟨a5, c5, e5⟩ := own_form hown5; subst e5; have K45 := ((Kept.refl (fun b => b = w1.heap.size) w4).alloc (.cells #[.string sb] 9)).grown hgrow5 (fun j hj => .inl (by simpa [Value.ownBlock] using hj.symm)); have hs45 := K45.size; have hr5 := hr4.keep K45 (fun j hj h => by omega); have HB5 := Lib.hid ((K45.box HB4.out (by omega)).off (p := ⟨G, 2, none⟩) hGne' (u := .int .i64 ((i1 : Int) + 1))); have HK5 := Lib.hid ((HK4.out.trans K45 (fun j hj h => by omega)).setCell (p := ⟨G, 2, none⟩) (.inl rfl) (.int .i64 ((i1 : Int) + 1))); have c2 : w5.cell? ⟨G, 2, none⟩ = some (.int .i64 (i1 : Int)) := hr5.box.cell 2; have u2 := hr5.box.free 2; have hr5s := hr5.at (.int .i64 ((i1 : Int) + 1)) i2 (by omega) (by rw [HI2.out]); have HO5 := Lib.hid ((Kept.setCell (S := fun b => b = G) (Kept.refl _ w5) (p := ⟨G, 2, none⟩) (.inl rfl) (.int .i64 ((i1 : Int) + 1))).owns hown5 (fun j hj h => by have := (hown5.lt j hj).1; omega)); have NC3 := nextD_walk hr5s; rw [hd2] at NC3; clear hown5 hgrow5))
    | fail)
  refine NC3.mono ?_
  rintro ee w6 ⟨rfl, hk6⟩
  have HB6 := Lib.hid (hk6.box HB5.out (fun h => h))
  have hr6 := hr5s.keep hk6 (fun _ _ h => h)
  have HO6 := Lib.hid (hk6.owns HO5.out (fun _ _ h => h))
  have HK6 := Lib.hid (HK5.out.trans hk6 (fun _ _ h => h.elim))
  have c26 : w6.cell? ⟨G, 2, none⟩ = some (.int .i64 (i2 : Int)) := hr6.box.cell 2
  have u26 := hr6.box.free 2
  have c06 : w6.cell? ⟨G, 0, none⟩ = some (.slice ao L.length cp) := hr6.box.cell 0
  have hs6 := hk6.size
  simp only [World.size_setCell] at hs6
  have hs5 := (HO5.out.lt)
  have hB6 := HB6.out.lt
  clear hk6 hr5s NC3 c2 u2 hs5
  try rw [← HEB.out]
  go_wp2_with fail
  go_quiet (fail)
  have HS7 := Lib.hid (show StrS (w6.drewN nq) (.slice a5 2 c5) [hb, sb] from own_strs (e := 9) (base := w1.heap.size) (l := [hb, sb]) (((Kept.refl (fun _ => False) w6).drewN nq).owns HO6.out (fun _ _ h => h)))
  have hr7 := hr6.drew nq
  have HBq := Lib.hid (((Kept.refl (fun _ => False) w6).drewN nq).box HB6.out (fun h => h))
  have HKq := Lib.hid (HK6.out.drewN nq)
  clear c26 c06
  have OC := rof_walk _ [hb, sb] (w6.drewN nq) HS7.out HSZ.out
  rw [show textsB [hb, sb] = tl from HTL.out] at OC
  have HOP := Lib.hid (fun d hd => ofD_op (ws := tl) (d := d) hd)
  generalize Dep.ofD tl = od at *
  cases od with
  | none =>
    simp only [ofV] at OC
    go_wp2_with fail
    refine OC.mono ?_
    rintro ee w7 ⟨rfl, hk7⟩
    have HB7 := Lib.hid (hk7.box HBq.out (fun h => h))
    have z0 := fun ob => (HB7.out.after_alloc ob).cell 0; have z1 := fun ob => (HB7.out.after_alloc ob).cell 1; have z2 := fun ob => (HB7.out.after_alloc ob).cell 2; have z3 := fun ob => (HB7.out.after_alloc ob).cell 3; have z4 := fun ob => (HB7.out.after_alloc ob).cell 4; have z5 := fun ob => (HB7.out.after_alloc ob).cell 5; have z6 := fun ob => (HB7.out.after_alloc ob).cell 6
    have y0 := fun ob => (HB7.out.after_alloc ob).free 0; have y1 := fun ob => (HB7.out.after_alloc ob).free 1; have y2 := fun ob => (HB7.out.after_alloc ob).free 2; have y3 := fun ob => (HB7.out.after_alloc ob).free 3; have y4 := fun ob => (HB7.out.after_alloc ob).free 4; have y5 := fun ob => (HB7.out.after_alloc ob).free 5; have y6 := fun ob => (HB7.out.after_alloc ob).free 6
    have HK7 := Lib.hid (HKq.out.trans hk7 (fun _ _ h => h.elim))
    clear hk7
    go_wp2_with fail
    exact bodyPost_ret (rich_triple rfl _ _ w.heap.size _ _ _ _ _ _ _ _ _ rfl rfl rfl (seven_box (HB7.out.after_alloc _) _ _ _ _ _ _ _)) rfl (ReadD.err HRR.out.symm (seven_kept (HK7.out.alloc _) (.inr (Nat.le_refl _)) _ _ _ _ _ _ _))
  | some d =>
    have hdo := HOP.out d rfl
    obtain ⟨dn, dop, ⟨de, dv, dr⟩⟩ := d
    simp only [ofV] at OC
    go_wp2_with fail
    refine OC.mono ?_
    rintro ee w7 ⟨rfl, hk7⟩
    have HB7 := Lib.hid (hk7.box HBq.out (fun h => h))
    have z0 := fun ob => (HB7.out.after_alloc ob).cell 0; have z1 := fun ob => (HB7.out.after_alloc ob).cell 1; have z2 := fun ob => (HB7.out.after_alloc ob).cell 2; have z3 := fun ob => (HB7.out.after_alloc ob).cell 3; have z4 := fun ob => (HB7.out.after_alloc ob).cell 4; have z5 := fun ob => (HB7.out.after_alloc ob).cell 5; have z6 := fun ob => (HB7.out.after_alloc ob).cell 6
    have y0 := fun ob => (HB7.out.after_alloc ob).free 0; have y1 := fun ob => (HB7.out.after_alloc ob).free 1; have y2 := fun ob => (HB7.out.after_alloc ob).free 2; have y3 := fun ob => (HB7.out.after_alloc ob).free 3; have y4 := fun ob => (HB7.out.after_alloc ob).free 4; have y5 := fun ob => (HB7.out.after_alloc ob).free 5; have y6 := fun ob => (HB7.out.after_alloc ob).free 6
    have HK7 := Lib.hid (HKq.out.trans hk7 (fun _ _ h => h.elim))
    have HR7 := Lib.hid ((hr7.keep hk7 (fun _ _ h => h)).alloc (.cells #[.string ⟨dn.toArray⟩, .int .u8 (dop : Int), .int .i64 de, .string ⟨dv.toArray⟩, .string ⟨dr.toArray⟩] 25))
    clear hk7
    go_wp2_with fail
    exact bodyPost_ret (rich_triple rfl _ _ w.heap.size _ _ _ _ _ _ _ _ _ rfl rfl rfl (seven_box (HB7.out.after_alloc _) _ _ _ _ _ _ _)) rfl (ReadD.ok HRR.out.symm (richN_atom (d := ⟨dn, dop, ⟨de, dv, dr⟩⟩) hdo) HDR.out (HR7.out.keep (seven_kept (S := fun b => b = w.heap.size) (Kept.refl _ _) (.inl rfl) _ _ _ _ _ _ _) (fun j hj h => by omega)) (seven_kept (HK7.out.alloc _) (.inr (Nat.le_refl _)) _ _ _ _ _ _ _))
set_option maxRecDepth 100000 in
set_option maxHeartbeats 8000000 in
theorem readD_plain3 {w : World} {G e n i o : Nat} {L : List Wd} {ao : Option Addr} {cp : Nat} (h : RdD w G e L i n ao cp) {t : List UInt8} {p : Nat} {s : List UInt8} {ps : Nat} {v : List UInt8} {pv : Nat} {r2 : List Wd} (hd : L.drop i = (t, p) :: (s, ps) :: (v, pv) :: r2) (hop : (parseL s).2 = true) (hop0 : (parseL s).1 ≠ 0) {r : Res} (hrr : finF [t, s, v] p (n + 1) r2 = r) (h0 : t ≠ []) (h1 : t ≠ [41]) (h2 : t ≠ [40]) (hn : n + 1 ≤ 24) (hsz : ∀ q ∈ L, q.1.length ≤ 1000000) :
    Calls Tryz.prog 35 #[.pointer (some ⟨G, 0, none⟩), .int .i64 (o : Int)] w (ReadD w G e L ao cp r) := by
  have hr0 := h.alloc (.cells #[.int .u8 0, .string ⟨#[]⟩, .int .u8 0, .int .i64 0, .string ⟨#[]⟩, .string ⟨#[]⟩, .slice none 0 0] 28)
  have HB0 := Lib.hid (Box.made w 28 #[.int .u8 0, .string ⟨#[]⟩, .int .u8 0, .int .i64 0, .string ⟨#[]⟩, .string ⟨#[]⟩, .slice none 0 0])
  have hlt := h.box.lt
  have hfew := h.few
  have hGne : G ≠ w.heap.size := by omega
  have hGne' : w.heap.size ≠ G := by omega
  have NC1 := nextD_walk hr0
  obtain ⟨hgt, hd1, hilt⟩ := drop_get hd
  have e0 : (headD (L.drop i)).toList.isEmpty = false := by rw [headD_empty, hd]; exact decide_eq_false h0
  have e1 : ((headD (L.drop i)).toList == [41]) = false := by rw [headD_eqB, hd]; exact decide_eq_false h1
  have e2 : ((headD (L.drop i)).toList == [40]) = false := by rw [headD_eqB, hd]; exact decide_eq_false h2
  obtain ⟨hb, hbb⟩ : ∃ hb, hb = headD (L.drop i) := ⟨_, rfl⟩
  have HBB := Lib.hid (show hb.data.toList = t by rw [hbb, headD_data, hd]; rfl)
  rw [show placeW e (L.drop i) = p by rw [hd]; rfl] at NC1
  rw [← hbb] at NC1 e0 e1 e2
  obtain ⟨n1, hn1⟩ : ∃ n1, n1 = n + 1 := ⟨_, rfl⟩
  obtain ⟨i1, hi1⟩ : ∃ i1, i1 = i + 1 := ⟨_, rfl⟩
  have HN1 := Lib.hid (show ((n : Int) + 1) = (n1 : Int) by omega)
  have HI1 := Lib.hid (show ((i : Int) + 1) = (i1 : Int) by omega)
  have hn24 : (n : Int) + 1 ≤ 24 := by omega
  have hn0 : n1 ≤ 24 := by omega
  have hil : i1 ≤ L.length := by omega
  have htz : t.length ≤ 1000000 := hsz (t, p) (List.mem_of_getElem? hgt)
  obtain ⟨i0, hi, hz0, hz1, hz2⟩ := info_parts info_str
  obtain ⟨hgs, hd2, hslt⟩ := drop_get hd1
  have hsz2 : s.length ≤ 1000000 := hsz (s, ps) (List.mem_of_getElem? hgs)
  obtain ⟨hgv, hd3, hvlt⟩ := drop_get hd2
  have hsz3 : v.length ≤ 1000000 := hsz (v, pv) (List.mem_of_getElem? hgv)
  obtain ⟨sb, hsb⟩ : ∃ sb, sb = headD ((s, ps) :: (v, pv) :: r2) := ⟨_, rfl⟩
  have HSB := Lib.hid hsb
  have HSD := Lib.hid (show sb.data.toList = s by rw [hsb]; rfl)
  obtain ⟨eb, heb⟩ : ∃ eb, eb = headD ((v, pv) :: r2) := ⟨_, rfl⟩
  have HEB := Lib.hid heb
  have HED := Lib.hid (show eb.data.toList = v by rw [heb]; rfl)
  obtain ⟨op, ok, hpl⟩ : ∃ op ok, parseL s = (op, ok) := ⟨_, _, rfl⟩
  have HPL := Lib.hid (show parseL sb.data.toList = (op, ok) by rw [HSD.out]; exact hpl)
  rw [hpl] at hop hop0
  simp only at hop hop0
  subst hop
  have hopb : ((op : Int) == 0) = false := beq_eq_false_iff_ne.2 (by omega)
  have HTL := Lib.hid (show textsB [hb, sb, eb] = [t, s, v] by simp [textsB, HBB.out, HSD.out, HED.out])
  have HSZ := Lib.hid (show ∀ u ∈ [hb, sb, eb], u.size ≤ 1000000 from fun u hu => by
    simp at hu
    rcases hu with rfl | rfl | rfl
    · show u.data.size ≤ 1000000
      rw [← Array.length_toList, HBB.out]
      exact htz
    · show u.data.size ≤ 1000000
      rw [← Array.length_toList, HSD.out]
      exact hsz2
    · show u.data.size ≤ 1000000
      rw [← Array.length_toList, HED.out]
      exact hsz3
  )
  generalize [t, s, v] = tl at *
  have HRR := Lib.hid (show (match Dep.ofD tl with | some d => Except.ok (.mk 1 d [], n1, r2) | none => .error (p, 4)) = r by rw [hn1]; exact hrr)
  obtain ⟨i2, hi2⟩ : ∃ i2, i2 = i1 + 1 := ⟨_, rfl⟩
  obtain ⟨i3, hi3⟩ : ∃ i3, i3 = i2 + 1 := ⟨_, rfl⟩
  have HI2 := Lib.hid (show ((i1 : Int) + 1) = (i2 : Int) by omega)
  have HI3 := Lib.hid (show ((i2 : Int) + 1) = (i3 : Int) by omega)
  have hi2l : i2 ≤ L.length := by omega
  have hlt2 : (i2 : Int) < (L.length : Int) := by omega
  have hi3l : i3 ≤ L.length := by omega
  have HDR := Lib.hid (show L.drop i3 = r2 by rw [hi3, hi2, hi1]; exact hd3)
  rw [← hi1] at hd1 hd2
  rw [← hi2] at hd2
  have hi2s : i2 = i1 + 1 ∧ i2 ≤ 5001 := ⟨hi2, by omega⟩
  clear h hd h0 h1 h2 hn hsz hbb hn1 hi1 hgt hrr hsb heb hpl hop0 hi2 hi3 hgs hgv hd3 hi2s
  go_enter Tryz.func35, Tryz.ntmps35
  go_wp2_with fail
  refine NC1.mono ?_
  rintro ee w1 ⟨rfl, hk1⟩
  have HB1 := Lib.hid (hk1.box HB0.out (fun h => h))
  have hr1 := hr0.keep hk1 (fun _ _ h => h)
  have HK1 := Lib.hid (((Kept.refl (fun b => b = G) w).alloc (.cells #[.int .u8 0, .string ⟨#[]⟩, .int .u8 0, .int .i64 0, .string ⟨#[]⟩, .string ⟨#[]⟩, .slice none 0 0] 28)).trans hk1 (fun _ _ h => h.elim))
  have hs1 := HB1.out.lt
  have c2 : w1.cell? ⟨G, 2, none⟩ = some (.int .i64 (i : Int)) := hr1.box.cell 2
  have u2 := hr1.box.free 2
  have c3 : w1.cell? ⟨G, 3, none⟩ = some (.int .i64 (n : Int)) := hr1.box.cell 3
  have u3 := hr1.box.free 3
  have hr9 := (hr1.num (.int .i64 ((n : Int) + 1)) n1 (by omega) (by rw [HN1.out])).at (.int .i64 ((i : Int) + 1)) i1 (by omega) (by rw [HI1.out])
  have HB9 := Lib.hid (((HB1.out.off (p := ⟨G, 3, none⟩) hGne' (u := .int .i64 ((n : Int) + 1))).off (p := ⟨G, 2, none⟩) hGne' (u := .int .i64 ((i : Int) + 1))))
  have HK9 := Lib.hid ((HK1.out.setCell (p := ⟨G, 3, none⟩) (.inl rfl) (.int .i64 ((n : Int) + 1))).setCell (p := ⟨G, 2, none⟩) (.inl rfl) (.int .i64 ((i : Int) + 1)))
  have NC2 := nextD_walk (hr9.alloc (.cells #[.string hb] 9))
  rw [hd1, ← HSB.out] at NC2
  have HW9 := Lib.hid (Box.made ((w1.setCell ⟨G, 3, none⟩ (.int .i64 ((n : Int) + 1))).setCell ⟨G, 2, none⟩ (.int .i64 ((i : Int) + 1))) 9 #[.string hb])
  have hr9a := hr9.alloc (.cells #[.string hb] 9)
  have HB9a := Lib.hid (HB9.out.after_alloc (.cells #[.string hb] 9))
  have HK9a := Lib.hid (HK9.out.alloc (.cells #[.string hb] 9))
  simp only [World.size_setCell] at HW9
  clear hk1 hr1
  go_wp2_with fail
  refine NC2.mono ?_
  rintro ee w3 ⟨rfl, hk3⟩
  have HB3 := Lib.hid (hk3.box HB9a.out (fun h => h))
  have hr3 := hr9a.keep hk3 (fun _ _ h => h)
  have HL3 := Lib.hid (hk3.box HW9.out (fun h => h))
  have HK3 := Lib.hid (HK9a.out.trans hk3 (fun _ _ h => h.elim))
  have PC := parse4 sb w3
  rw [show parseL sb.data.toList = (op, true) from HPL.out] at PC
  clear hk3 hr9 hr9a NC2 c2 u2 c3 u3
  go_wp2_with fail
  refine PC.mono ?_
  rintro ee w4 ⟨rfl, hk4⟩
  have HB4 := Lib.hid (hk4.box HB3.out (fun h => h))
  have hr4 := hr3.keep hk4 (fun _ _ h => h)
  have HL4 := Lib.hid (hk4.box HL3.out (fun h => h))
  have HK4 := Lib.hid (HK3.out.trans hk4 (fun _ _ h => h.elim))
  have hs4 := hk4.size
  have hs3 := HL3.out.lt
  clear hk4 hr3 PC
  have hl4 := HL4.out.lt
  go_wp2_with (first
    | (at_builtin; (refine wpList_append_own_at _ rfl _ _ 32 rfl w1.heap.size 9 i0 (.string ⟨#[]⟩) 1 16 Tryz.underlying32 hi hz0 hz1 hz2 rfl (by decide) (.slice (some ⟨w1.heap.size, 0, none⟩) 1 1) _ _ rfl ((box_own1 HL4.out).alloc _) ⟨w4.heap.size, 0, none⟩ 1 1 [.string sb] rfl rfl (one_cell (Box.made _ 9 _)) (fun u hu => cellsS_one [sb] u hu) (by unfold maxLen; omega) (by omega) (by simp; omega) ?_; intro v5 w5 hown5 hgrow5 _ _; obtain ⟨a5, c5, e5⟩ := own_form hown5; subst e5; have K45 := ((Kept.refl (fun b => b = w1.heap.size) w4).alloc (.cells #[.string sb] 9)).grown hgrow5 (fun j hj => .inl (by simpa [Value.ownBlock] using hj.symm)); have hs45 := K45.size; have hr5 := hr4.keep K45 (fun j hj h => by omega); have HB5 := Lib.hid ((K45.box HB4.out (by omega)).off (p := ⟨G, 2, none⟩) hGne' (u := .int .i64 ((i1 : Int) + 1))); have HK5 := Lib.hid ((HK4.out.trans K45 (fun j hj h => by omega)).setCell (p := ⟨G, 2, none⟩) (.inl rfl) (.int .i64 ((i1 : Int) + 1))); have c2 : w5.cell? ⟨G, 2, none⟩ = some (.int .i64 (i1 : Int)) := hr5.box.cell 2; have u2 := hr5.box.free 2; have hr5s := hr5.at (.int .i64 ((i1 : Int) + 1)) i2 (by omega) (by rw [HI2.out]); have HO5 := Lib.hid ((Kept.setCell (S := fun b => b = G) (Kept.refl _ w5) (p := ⟨G, 2, none⟩) (.inl rfl) (.int .i64 ((i1 : Int) + 1))).owns hown5 (fun j hj h => by have := (hown5.lt j hj).1; omega)); have NC3 := nextD_walk hr5s; rw [hd2] at NC3; clear hown5 hgrow5))
    | fail)
  refine NC3.mono ?_
  rintro ee w6 ⟨rfl, hk6⟩
  have HB6 := Lib.hid (hk6.box HB5.out (fun h => h))
  have hr6 := hr5s.keep hk6 (fun _ _ h => h)
  have HO6 := Lib.hid (hk6.owns HO5.out (fun _ _ h => h))
  have HK6 := Lib.hid (HK5.out.trans hk6 (fun _ _ h => h.elim))
  have c26 : w6.cell? ⟨G, 2, none⟩ = some (.int .i64 (i2 : Int)) := hr6.box.cell 2
  have u26 := hr6.box.free 2
  have c06 : w6.cell? ⟨G, 0, none⟩ = some (.slice ao L.length cp) := hr6.box.cell 0
  have hs6 := hk6.size
  simp only [World.size_setCell] at hs6
  have hs5 := (HO5.out.lt)
  have hB6 := HB6.out.lt
  clear hk6 hr5s NC3 c2 u2 hs5
  try rw [← HEB.out]
  go_wp2_with fail
  go_quiet (fail)
  have hbo : w1.heap.size ≤ w6.heap.size := by omega
  go_wp2_with (first
    | (at_builtin; (refine wpList_append_own_at _ rfl _ _ 32 rfl w1.heap.size 9 i0 (.string ⟨#[]⟩) 1 16 Tryz.underlying32 hi hz0 hz1 hz2 rfl (by decide) (.slice a5 2 c5) _ _ rfl ((((Kept.refl (fun _ => False) w6).drewN nq).owns HO6.out (fun _ _ h => h)).alloc _) ⟨(w6.drewN nq).heap.size, 0, none⟩ 1 1 [.string eb] rfl rfl (one_cell (Box.made _ 9 _)) (fun u hu => cellsS_one [eb] u hu) (by unfold maxLen; omega) (by omega) (by simp; omega) ?_; intro v8 w8 hown8 hgrow8 _ _; obtain ⟨a8, c8, e8⟩ := own_form hown8; subst e8; have K68 := (((Kept.refl (fun b => w1.heap.size ≤ b) w6).drewN nq).alloc (.cells #[.string eb] 9)).grown hgrow8 (fun j hj => .inl (HO6.out.lt j hj).1); have hr8 := hr6.keep K68 (fun j hj h => by omega); have HB8 := Lib.hid ((K68.box HB6.out (by omega)).off (p := ⟨G, 2, none⟩) hGne' (u := .int .i64 ((i2 : Int) + 1))); have HK8 := Lib.hid ((HK6.out.trans K68 (fun j hj h => by omega)).setCell (p := ⟨G, 2, none⟩) (.inl rfl) (.int .i64 ((i2 : Int) + 1))); have c28 : w8.cell? ⟨G, 2, none⟩ = some (.int .i64 (i2 : Int)) := hr8.box.cell 2; have u28 := hr8.box.free 2; have hr8s := hr8.at (.int .i64 ((i2 : Int) + 1)) i3 (by omega) (by rw [HI3.out]); have HO8 := Lib.hid ((Kept.setCell (S := fun b => b = G) (Kept.refl _ w8) (p := ⟨G, 2, none⟩) (.inl rfl) (.int .i64 ((i2 : Int) + 1))).owns hown8 (fun j hj h => by have := (hown8.lt j hj).1; omega)); clear hown8 hgrow8))
    | fail)
  have HS8 := Lib.hid (show StrS (w8.setCell ⟨G, 2, none⟩ (.int .i64 ((i2 : Int) + 1))) (.slice a8 3 c8) [hb, sb, eb] from own_strs (e := 9) (base := w1.heap.size) (l := [hb, sb, eb]) HO8.out)
  clear c26 c06 c28 u28
  have OC := rof_walk _ [hb, sb, eb] (w8.setCell ⟨G, 2, none⟩ (.int .i64 ((i2 : Int) + 1))) HS8.out HSZ.out
  rw [show textsB [hb, sb, eb] = tl from HTL.out] at OC
  have HOP := Lib.hid (fun d hd => ofD_op (ws := tl) (d := d) hd)
  generalize Dep.ofD tl = od at *
  cases od with
  | none =>
    simp only [ofV] at OC
    go_wp2_with fail
    refine OC.mono ?_
    rintro ee w7 ⟨rfl, hk7⟩
    have HB7 := Lib.hid (hk7.box HB8.out (fun h => h))
    have z0 := fun ob => (HB7.out.after_alloc ob).cell 0; have z1 := fun ob => (HB7.out.after_alloc ob).cell 1; have z2 := fun ob => (HB7.out.after_alloc ob).cell 2; have z3 := fun ob => (HB7.out.after_alloc ob).cell 3; have z4 := fun ob => (HB7.out.after_alloc ob).cell 4; have z5 := fun ob => (HB7.out.after_alloc ob).cell 5; have z6 := fun ob => (HB7.out.after_alloc ob).cell 6
    have y0 := fun ob => (HB7.out.after_alloc ob).free 0; have y1 := fun ob => (HB7.out.after_alloc ob).free 1; have y2 := fun ob => (HB7.out.after_alloc ob).free 2; have y3 := fun ob => (HB7.out.after_alloc ob).free 3; have y4 := fun ob => (HB7.out.after_alloc ob).free 4; have y5 := fun ob => (HB7.out.after_alloc ob).free 5; have y6 := fun ob => (HB7.out.after_alloc ob).free 6
    have HK7 := Lib.hid (HK8.out.trans hk7 (fun _ _ h => h.elim))
    clear hk7
    go_wp2_with fail
    exact bodyPost_ret (rich_triple rfl _ _ w.heap.size _ _ _ _ _ _ _ _ _ rfl rfl rfl (seven_box (HB7.out.after_alloc _) _ _ _ _ _ _ _)) rfl (ReadD.err HRR.out.symm (seven_kept (HK7.out.alloc _) (.inr (Nat.le_refl _)) _ _ _ _ _ _ _))
  | some d =>
    have hdo := HOP.out d rfl
    obtain ⟨dn, dop, ⟨de, dv, dr⟩⟩ := d
    simp only [ofV] at OC
    go_wp2_with fail
    refine OC.mono ?_
    rintro ee w7 ⟨rfl, hk7⟩
    have HB7 := Lib.hid (hk7.box HB8.out (fun h => h))
    have z0 := fun ob => (HB7.out.after_alloc ob).cell 0; have z1 := fun ob => (HB7.out.after_alloc ob).cell 1; have z2 := fun ob => (HB7.out.after_alloc ob).cell 2; have z3 := fun ob => (HB7.out.after_alloc ob).cell 3; have z4 := fun ob => (HB7.out.after_alloc ob).cell 4; have z5 := fun ob => (HB7.out.after_alloc ob).cell 5; have z6 := fun ob => (HB7.out.after_alloc ob).cell 6
    have y0 := fun ob => (HB7.out.after_alloc ob).free 0; have y1 := fun ob => (HB7.out.after_alloc ob).free 1; have y2 := fun ob => (HB7.out.after_alloc ob).free 2; have y3 := fun ob => (HB7.out.after_alloc ob).free 3; have y4 := fun ob => (HB7.out.after_alloc ob).free 4; have y5 := fun ob => (HB7.out.after_alloc ob).free 5; have y6 := fun ob => (HB7.out.after_alloc ob).free 6
    have HK7 := Lib.hid (HK8.out.trans hk7 (fun _ _ h => h.elim))
    have HR7 := Lib.hid ((hr8s.keep hk7 (fun _ _ h => h)).alloc (.cells #[.string ⟨dn.toArray⟩, .int .u8 (dop : Int), .int .i64 de, .string ⟨dv.toArray⟩, .string ⟨dr.toArray⟩] 25))
    clear hk7
    go_wp2_with fail
    exact bodyPost_ret (rich_triple rfl _ _ w.heap.size _ _ _ _ _ _ _ _ _ rfl rfl rfl (seven_box (HB7.out.after_alloc _) _ _ _ _ _ _ _)) rfl (ReadD.ok HRR.out.symm (richN_atom (d := ⟨dn, dop, ⟨de, dv, dr⟩⟩) hdo) HDR.out (HR7.out.keep (seven_kept (S := fun b => b = w.heap.size) (Kept.refl _ _) (.inl rfl) _ _ _ _ _ _ _) (fun j hj h => by omega)) (seven_kept (HK7.out.alloc _) (.inr (Nat.le_refl _)) _ _ _ _ _ _ _))
end Go.Proofs.YtlagnebgoclaeaaGreatDoor

namespace Go.Proofs.YtlagnebgoclaeaaGreatDoor
open Go.RowKit Rich Lex Span

theorem readF_ne : ∀ f, (∀ e o n ws y, readF e f o n ws = .error y → y.2 ≠ 0) ∧ (∀ e o k n c ws y, moreF e f o k c n ws = .error y → y.2 ≠ 0) := by
  intro f
  induction f with
  | zero => exact ⟨fun e o n ws y h => by rw [readF] at h; cases h; exact by simp, fun e o k n c ws y h => by rw [moreF] at h; cases h; exact by simp⟩
  | succ f ih =>
    refine ⟨fun e o n ws y h => ?_, fun e o k n c ws y h => ?_⟩
    · cases ws with
      | nil => rw [readF] at h; cases h; exact by simp
      | cons q rest =>
        obtain ⟨w, p⟩ := q
        rw [readF] at h
        by_cases h1 : w = [] ∨ w = [41]
        · rw [if_pos h1] at h; cases h; exact by simp
        rw [if_neg h1] at h
        by_cases h2 : w = [40] ∧ o = 8
        · rw [if_pos h2] at h; cases h; exact by simp
        rw [if_neg h2] at h
        by_cases h3 : 24 < n + 1
        · rw [if_pos h3] at h; cases h; exact by simp
        rw [if_neg h3] at h
        by_cases h4 : w ≠ [40]
        · rw [if_pos h4] at h
          have fin : ∀ ws p n rest, finF ws p n rest = .error y → y.2 ≠ 0 := by
            intro ws p n rest h
            unfold finF at h
            cases hd : Dep.ofD ws with
            | none => rw [hd] at h; cases h; exact by simp
            | some d => rw [hd] at h; cases h
          unfold atomF at h
          split at h
          · split at h
            · exact fin _ _ _ _ h
            · exact fin _ _ _ _ h
          · exact fin _ _ _ _ h
        rw [if_neg h4] at h
        cases hr : readF e f (o + 1) (n + 1) rest with
        | error x => rw [hr] at h; cases h; exact ih.1 _ _ _ _ _ hr
        | ok r =>
          obtain ⟨a, n2, ws2⟩ := r
          rw [hr] at h
          simp only at h
          by_cases h5 : kindW (textW ws2) = 0
          · rw [if_pos h5] at h; cases h; exact by simp
          · rw [if_neg h5] at h; exact ih.2 _ _ _ _ _ _ _ h
    · rw [moreF] at h
      cases hr : readF e f o n ws.tail with
      | error x => rw [hr] at h; cases h; exact ih.1 _ _ _ _ _ hr
      | ok r =>
        obtain ⟨b, n2, ws2⟩ := r
        rw [hr] at h
        simp only at h
        by_cases h5 : textW ws2 = [41]
        · rw [if_pos h5] at h; cases h
        rw [if_neg h5] at h
        by_cases h6 : moreW k (c.length + 1) (textW ws2) = true
        · rw [if_pos h6] at h; exact ih.2 _ _ _ _ _ _ _ h
        · rw [if_neg h6] at h; cases h; exact by simp
/-- The Kind that the word is, of those below k. -/
def kdAt (t : List UInt8) (k : Nat) : Nat := if kindW t < k then kindW t else 0
theorem kdAt_two (t : List UInt8) : kdAt t 2 = 0 := by
  unfold kdAt
  split
  · by_cases h : kindW t = 0
    · exact h
    · have := (kindW_some h).1; omega
  · rfl
theorem kdAt_end (t : List UInt8) : kdAt t 8 = kindW t := by unfold kdAt; rw [if_pos (by have := kindW_lt t; omega)]
theorem kdAt_yes {t : List UInt8} {k : Nat} (hk : 2 ≤ k ∧ k ≤ 7) (h : t = wordK k) : kdAt t (k + 1) = k := by
  unfold kdAt
  rw [h, kindW_word hk, if_pos (by omega)]
theorem kdAt_no {t : List UInt8} {k : Nat} (hk : 2 ≤ k ∧ k ≤ 7) (h : t ≠ wordK k) : kdAt t (k + 1) = kdAt t k := by
  unfold kdAt
  have hne : kindW t ≠ k := by
    intro e
    have h0 : kindW t ≠ 0 := by omega
    have := (kindW_some h0).2.2
    rw [e] at this
    exact h this.symm
  by_cases hl : kindW t < k
  · rw [if_pos hl, if_pos (by omega)]
  · rw [if_neg hl, if_neg (by omega)]
/-- What reads a part reads as the document says, with less than so much to go by. -/
def ReadDK (e F : Nat) : Prop := ∀ (f : Nat), f < F → ∀ (L : List Wd) (i o n G : Nat) (ao : Option Addr) (cp : Nat) (w : World) (r : Res), (L.drop i).length < f → o ≤ 8 → n ≤ 24 → (∀ q ∈ L, q.1.length ≤ 1000000) →
  RdD w G e L i n ao cp → readF e f o n (L.drop i) = r → Calls Tryz.prog 35 #[.pointer (some ⟨G, 0, none⟩), .int .i64 (o : Int)] w (ReadD w G e L ao cp r)
def leftD (G m : Nat) (W : World) : Nat := match W.cell? ⟨G, 2, none⟩ with
  | some (.int _ n) => m - n.toNat
  | _ => 0
theorem leftD_eq {w : World} {G e n i : Nat} {L : List Wd} {ao : Option Addr} {cp : Nat} (h : RdD w G e L i n ao cp) : leftD G L.length w = L.length - i := by
  have c : w.cell? ⟨G, 2, none⟩ = some (.int .i64 (i : Int)) := h.box.cell 2
  unfold leftD
  rw [c]
  simp
theorem drop_lt {L : List Wd} {i : Nat} (h : textW (L.drop i) ≠ []) : i < L.length := by
  by_cases hl : i < L.length
  · exact hl
  · exfalso
    rw [List.drop_eq_nil_of_le (by omega)] at h
    exact h rfl
theorem word_else (k : Nat) : wordK k ≠ wElse := by
  match k with
  | 0 | 1 | 2 | 3 | 4 | 5 | 6 | 7 => decide
  | _ + 8 => show [] ≠ wElse; decide
end Go.Proofs.YtlagnebgoclaeaaGreatDoor
