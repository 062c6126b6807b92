/-
  The walk over the law RichParts, over what the program's rich answers. Conditions: as each theorem states.
-/
import Derived.Test.YtlagnebgoclaeaaGreatDoorK09
import Derived.Test.YtlagnebgoclaeaaGreatDoorK10
import Derived.Deep.AppendLies
import Derived.IntWalk
namespace Go.Proofs.YtlagnebgoclaeaaGreatDoor
open Go.RowKit Rich

theorem part_turned {k : Nat} (hk : k = 2 ∨ k = 3 ∨ k = 6) {d dm : Dep.D} {a : R} {l : List R} (h : whole (.mk k d (a :: l)) = true) (hm : whole (.mk 1 dm []) = true) :
    Rich.part (.mk k d (.mk 1 dm [] :: (l ++ [a]))) = true ∧ count (.mk k d (.mk 1 dm [] :: (l ++ [a]))) = count (.mk k d (a :: l)) + 1 := by
  obtain ⟨h1, h2, h3⟩ := whole_iff.1 h
  obtain ⟨m1, _, _⟩ := whole_iff.1 hm
  have hk1 : k ≠ 1 := by omega
  obtain ⟨g1, g2, g3⟩ := (part_other hk1).1 h1
  refine ⟨(part_other hk1).2 ⟨?_, ?_, g3⟩, ?_⟩
  · unfold okN at g1 ⊢
    rw [if_pos hk] at g1 ⊢
    simp at g1 ⊢
  · obtain ⟨ga, gl⟩ := allP_cons.1 g2
    refine allP_cons.2 ⟨m1, allP_all.2 fun y hy => ?_⟩
    rcases List.mem_append.1 hy with hy | hy
    · exact allP_all.1 gl y hy
    · rw [List.mem_singleton.1 hy]; exact ga
  · rw [count, count, counts, counts_app, count, counts, counts, counts, counts]
    omega
theorem cellsP_set : ∀ (ps : List Pc) (k : Nat) (p : Pc), k < ps.length → (((((((cellsP ps).set (k * 7) (.int .u8 (p.1.kind : Int))).set (k * 7 + 1) (.string ⟨p.1.dep.name.toArray⟩)).set (k * 7 + 2) (.int .u8 (p.1.dep.op : Int))).set (k * 7 + 3) (.int .i64 p.1.dep.evr.epoch)).set (k * 7 + 4) (.string ⟨p.1.dep.evr.ver.toArray⟩)).set (k * 7 + 5) (.string ⟨p.1.dep.evr.rel.toArray⟩)).set (k * 7 + 6) (.slice p.2.1 p.1.args.length p.2.2) = cellsP (ps.set k p)
  | [], k, p, h => by simp at h
  | q :: l, 0, p, h => rfl
  | q :: l, k + 1, p, h => by
    have h1 := cellsP_set l k p (by simpa using h)
    have e : ∀ j, (k + 1) * 7 + j = (k * 7 + j) + 1 + 1 + 1 + 1 + 1 + 1 + 1 := fun j => by omega
    rw [show (k + 1) * 7 = (k * 7) + 1 + 1 + 1 + 1 + 1 + 1 + 1 by omega]
    simp only [List.set_cons_succ, cellsP, List.cons_append, List.nil_append]
    rw [h1]
theorem store7 {w : World} {base g n cap : Nat} {e : TypeId} {ps : List Pc} (h : w.ownsRow base e 7 (.slice (some ⟨g, 0, none⟩) n cap) n (cellsP ps)) (k o : Nat) (p : Pc) (hk : k < ps.length) (ho : o = k * 7) :
    (((((((w.setCell ⟨g, o, none⟩ (.int .u8 (p.1.kind : Int))).setCell ⟨g, o + 1, none⟩ (.string ⟨p.1.dep.name.toArray⟩)).setCell ⟨g, o + 2, none⟩ (.int .u8 (p.1.dep.op : Int))).setCell ⟨g, o + 3, none⟩ (.int .i64 p.1.dep.evr.epoch)).setCell ⟨g, o + 4, none⟩ (.string ⟨p.1.dep.evr.ver.toArray⟩)).setCell ⟨g, o + 5, none⟩ (.string ⟨p.1.dep.evr.rel.toArray⟩)).setCell ⟨g, o + 6, none⟩ (.slice p.2.1 p.1.args.length p.2.2)).ownsRow base e 7 (.slice (some ⟨g, 0, none⟩) n cap) n (cellsP (ps.set k p)) := by
  subst ho
  rw [← cellsP_set ps k p hk]
  exact (((((((h.stored _ _).1.stored _ _).1.stored _ _).1.stored _ _).1.stored _ _).1.stored _ _).1.stored _ _).1
theorem kept7 {S : Nat → Prop} {a w : World} (h : Kept S a w) {g : Nat} (hg : S g) (o : Nat) (x0 x1 x2 x3 x4 x5 x6 : Value) :
    Kept S a (((((((w.setCell ⟨g, o, none⟩ x0).setCell ⟨g, o + 1, none⟩ x1).setCell ⟨g, o + 2, none⟩ x2).setCell ⟨g, o + 3, none⟩ x3).setCell ⟨g, o + 4, none⟩ x4).setCell ⟨g, o + 5, none⟩ x5).setCell ⟨g, o + 6, none⟩ x6) :=
  ((((((h.setCell (p := ⟨g, o, none⟩) (.inl hg) x0).setCell (p := ⟨g, o + 1, none⟩) (.inl hg) x1).setCell (p := ⟨g, o + 2, none⟩) (.inl hg) x2).setCell (p := ⟨g, o + 3, none⟩) (.inl hg) x3).setCell (p := ⟨g, o + 4, none⟩) (.inl hg) x4).setCell (p := ⟨g, o + 5, none⟩) (.inl hg) x5).setCell (p := ⟨g, o + 6, none⟩) (.inl hg) x6
theorem own_there {w : World} {base n : Nat} {e : TypeId} {xs : List Value} {g j : Nat} {cap : Nat} (h : w.ownsRow base e 7 (.slice (some ⟨g, 0, none⟩) n cap) n xs) (hj : j < xs.length) : ∃ u, w.cell? ⟨g, j, none⟩ = some u := ⟨_, (own_cell h (List.getElem?_eq_getElem hj)).1⟩
theorem getD_set_self {ls : Array Bool} {l : List Oper} {i : Nat} (h : ls.size = l.length) (hi : i < l.length) : (ls.setIfInBounds i true).getD i false = true := by simp [h, hi]
def LstS (ps : List Pc) (n : Nat) (p0 pm : Pc) (a b : Bool) : List Pc := if b then (if a then ps.set 0 pm else ps).set n p0 else (if a then ps.set 0 pm else ps)
theorem lstS_len (ps : List Pc) (n : Nat) (p0 pm : Pc) (a b : Bool) : (LstS ps n p0 pm a b).length = ps.length := by cases a <;> cases b <;> simp [LstS]
theorem lstS_end {p0 pm : Pc} {pt : List Pc} {n : Nat} (h : pt.length + 1 = n) : LstS ((p0 :: pt) ++ [pm]) n p0 pm true true = pm :: (pt ++ [p0]) := by
  subst h
  simp [LstS, List.set_append_right]
set_option maxRecDepth 100000 in
set_option maxHeartbeats 8000000 in
theorem parts_large1 (w : World) (hAw : AwakeK8 w) (x y : R) (v v' : Value) (hr : RichS w x v) (hr' : RichS w y v') (hf : fitsX x) (hf' : fitsX y) (g1 : (muchX x 0).2 = true) :
    Calls Tryz.prog 6 #[v, v'] w fun e w' => e = .returned (.bool true) ∧ Kept (fun _ => False) w w' := by
  have AC := fun W (hk : Kept (fun _ => False) w W) => hAw W hk
  have L1 := fun W (hk : Kept (fun _ => False) w W) => large8_walk x v W (RichS.kept hk x v hr) hf
  have L2 := fun W (hk : Kept (fun _ => False) w W) => large8_walk y v' W (RichS.kept hk y v' hr') hf'
  rw [g1] at L1
  clear L2 hAw
  obtain ⟨k, d, l⟩ := x
  obtain ⟨k', d', l'⟩ := y
  rw [RichS] at hr hr'
  obtain ⟨ao, cp, rfl, hkb, hdb, hAr⟩ := hr
  obtain ⟨ao', cp', rfl, hkb', hdb', hBr⟩ := hr'
  have HA := Lib.hid ((Box.made w 28 (richA k d (.slice ao l.length cp))).after_alloc (.cells (richA k' d' (.slice ao' l'.length cp')) 28))
  have HB := Lib.hid (show Box ((w.alloc (.cells (richA k d (.slice ao l.length cp)) 28)).alloc (.cells (richA k' d' (.slice ao' l'.length cp')) 28)) (w.heap.size + 1) 28 (richA k' d' (.slice ao' l'.length cp')) from by
    have h := Box.made (w.alloc (.cells (richA k d (.slice ao l.length cp)) 28)) 28 (richA k' d' (.slice ao' l'.length cp'))
    rw [World.size_alloc] at h
    exact h)
  have HK := Lib.hid (((Kept.refl (fun _ => False) w).alloc (.cells (richA k d (.slice ao l.length cp)) 28)).alloc (.cells (richA k' d' (.slice ao' l'.length cp')) 28))
  go_enter Tryz.func6, Tryz.ntmps6
  go_wp2_with (first
    | (go_at_call 7; (with_reducible refine (L1 _ HK.out).mono ?_); rintro e w3 ⟨rfl, hk3⟩; have HK := Lib.hid (Kept.trans HK.out hk3 (fun _ _ h => h)); have HA := Lib.hid (hk3.box HA.out (fun h => h)); have a0 := HA.out.cell 0; have a1 := HA.out.cell 1; have a2 := HA.out.cell 2; have a3 := HA.out.cell 3; have a4 := HA.out.cell 4; have a5 := HA.out.cell 5; have a6 := HA.out.cell 6; have HB := Lib.hid (hk3.box HB.out (fun h => h)); have b0 := HB.out.cell 0; have b1 := HB.out.cell 1; have b2 := HB.out.cell 2; have b3 := HB.out.cell 3; have b4 := HB.out.cell 4; have b5 := HB.out.cell 5; have b6 := HB.out.cell 6; clear hk3)
    | (go_at_call 8; (with_reducible refine (AC _ HK.out).mono ?_); rintro e w5 ⟨rfl, hk5⟩; have HK := Lib.hid (Kept.trans HK.out hk5 (fun _ _ h => h)); have HA := Lib.hid (hk5.box HA.out (fun h => h)); have a0 := HA.out.cell 0; have a1 := HA.out.cell 1; have a2 := HA.out.cell 2; have a3 := HA.out.cell 3; have a4 := HA.out.cell 4; have a5 := HA.out.cell 5; have a6 := HA.out.cell 6; have HB := Lib.hid (hk5.box HB.out (fun h => h)); have b0 := HB.out.cell 0; have b1 := HB.out.cell 1; have b2 := HB.out.cell 2; have b3 := HB.out.cell 3; have b4 := HB.out.cell 4; have b5 := HB.out.cell 5; have b6 := HB.out.cell 6; clear hk5)
    | fail)
  go_ret
  exact ⟨rfl, HK.out⟩
set_option maxRecDepth 100000 in
set_option maxHeartbeats 8000000 in
theorem parts_large2 (w : World) (hAw : AwakeK8 w) (x y : R) (v v' : Value) (hr : RichS w x v) (hr' : RichS w y v') (hf : fitsX x) (hf' : fitsX y) (g1 : (muchX x 0).2 = false) (g2 : (muchX y 0).2 = true) :
    Calls Tryz.prog 6 #[v, v'] w fun e w' => e = .returned (.bool true) ∧ Kept (fun _ => False) w w' := by
  have AC := fun W (hk : Kept (fun _ => False) w W) => hAw W hk
  have L1 := fun W (hk : Kept (fun _ => False) w W) => large8_walk x v W (RichS.kept hk x v hr) hf
  have L2 := fun W (hk : Kept (fun _ => False) w W) => large8_walk y v' W (RichS.kept hk y v' hr') hf'
  rw [g1] at L1
  rw [g2] at L2
  clear hAw
  obtain ⟨k, d, l⟩ := x
  obtain ⟨k', d', l'⟩ := y
  rw [RichS] at hr hr'
  obtain ⟨ao, cp, rfl, hkb, hdb, hAr⟩ := hr
  obtain ⟨ao', cp', rfl, hkb', hdb', hBr⟩ := hr'
  have HA := Lib.hid ((Box.made w 28 (richA k d (.slice ao l.length cp))).after_alloc (.cells (richA k' d' (.slice ao' l'.length cp')) 28))
  have HB := Lib.hid (show Box ((w.alloc (.cells (richA k d (.slice ao l.length cp)) 28)).alloc (.cells (richA k' d' (.slice ao' l'.length cp')) 28)) (w.heap.size + 1) 28 (richA k' d' (.slice ao' l'.length cp')) from by
    have h := Box.made (w.alloc (.cells (richA k d (.slice ao l.length cp)) 28)) 28 (richA k' d' (.slice ao' l'.length cp'))
    rw [World.size_alloc] at h
    exact h)
  have HK := Lib.hid (((Kept.refl (fun _ => False) w).alloc (.cells (richA k d (.slice ao l.length cp)) 28)).alloc (.cells (richA k' d' (.slice ao' l'.length cp')) 28))
  go_enter Tryz.func6, Tryz.ntmps6
  go_wp2_with (first
    | (go_at_call 7; (with_reducible refine (L1 _ HK.out).mono ?_); rintro e w3 ⟨rfl, hk3⟩; have HK := Lib.hid (Kept.trans HK.out hk3 (fun _ _ h => h)); have HA := Lib.hid (hk3.box HA.out (fun h => h)); have a0 := HA.out.cell 0; have a1 := HA.out.cell 1; have a2 := HA.out.cell 2; have a3 := HA.out.cell 3; have a4 := HA.out.cell 4; have a5 := HA.out.cell 5; have a6 := HA.out.cell 6; have HB := Lib.hid (hk3.box HB.out (fun h => h)); have b0 := HB.out.cell 0; have b1 := HB.out.cell 1; have b2 := HB.out.cell 2; have b3 := HB.out.cell 3; have b4 := HB.out.cell 4; have b5 := HB.out.cell 5; have b6 := HB.out.cell 6; clear hk3)
    | (go_at_call 7; (with_reducible refine (L2 _ HK.out).mono ?_); rintro e w4 ⟨rfl, hk4⟩; have HK := Lib.hid (Kept.trans HK.out hk4 (fun _ _ h => h)); have HA := Lib.hid (hk4.box HA.out (fun h => h)); have a0 := HA.out.cell 0; have a1 := HA.out.cell 1; have a2 := HA.out.cell 2; have a3 := HA.out.cell 3; have a4 := HA.out.cell 4; have a5 := HA.out.cell 5; have a6 := HA.out.cell 6; have HB := Lib.hid (hk4.box HB.out (fun h => h)); have b0 := HB.out.cell 0; have b1 := HB.out.cell 1; have b2 := HB.out.cell 2; have b3 := HB.out.cell 3; have b4 := HB.out.cell 4; have b5 := HB.out.cell 5; have b6 := HB.out.cell 6; clear hk4)
    | (go_at_call 8; (with_reducible refine (AC _ HK.out).mono ?_); rintro e w5 ⟨rfl, hk5⟩; have HK := Lib.hid (Kept.trans HK.out hk5 (fun _ _ h => h)); have HA := Lib.hid (hk5.box HA.out (fun h => h)); have a0 := HA.out.cell 0; have a1 := HA.out.cell 1; have a2 := HA.out.cell 2; have a3 := HA.out.cell 3; have a4 := HA.out.cell 4; have a5 := HA.out.cell 5; have a6 := HA.out.cell 6; have HB := Lib.hid (hk5.box HB.out (fun h => h)); have b0 := HB.out.cell 0; have b1 := HB.out.cell 1; have b2 := HB.out.cell 2; have b3 := HB.out.cell 3; have b4 := HB.out.cell 4; have b5 := HB.out.cell 5; have b6 := HB.out.cell 6; clear hk5)
    | fail)
  go_ret
  exact ⟨rfl, HK.out⟩
set_option maxRecDepth 100000 in
set_option maxHeartbeats 8000000 in
theorem parts_not (w : World) (hAw : AwakeK8 w) (hWh : WholeK8 w) (x y : R) (v v' : Value) (hr : RichS w x v) (hr' : RichS w y v') (hf : fitsX x) (hf' : fitsX y) (g1 : (muchX x 0).2 = false) (g2 : (muchX y 0).2 = false) (hx : whole x = false) :
    Calls Tryz.prog 6 #[v, v'] w fun e w' => e = .returned (.bool true) ∧ Kept (fun _ => False) w w' := by
  have AC := fun W (hk : Kept (fun _ => False) w W) => hAw W hk
  have L1 := fun W (hk : Kept (fun _ => False) w W) => large8_walk x v W (RichS.kept hk x v hr) hf
  have L2 := fun W (hk : Kept (fun _ => False) w W) => large8_walk y v' W (RichS.kept hk y v' hr') hf'
  rw [g1] at L1
  rw [g2] at L2
  obtain ⟨s1, c1⟩ := large_no g1
  have WC := fun W (hk : Kept (fun _ => False) w W) => hWh x v W (RichS.kept hk x v hr) s1 c1 hk
  rw [hx] at WC
  clear hWh hAw
  obtain ⟨k, d, l⟩ := x
  obtain ⟨k', d', l'⟩ := y
  rw [RichS] at hr hr'
  obtain ⟨ao, cp, rfl, hkb, hdb, hAr⟩ := hr
  obtain ⟨ao', cp', rfl, hkb', hdb', hBr⟩ := hr'
  have HA := Lib.hid ((Box.made w 28 (richA k d (.slice ao l.length cp))).after_alloc (.cells (richA k' d' (.slice ao' l'.length cp')) 28))
  have HB := Lib.hid (show Box ((w.alloc (.cells (richA k d (.slice ao l.length cp)) 28)).alloc (.cells (richA k' d' (.slice ao' l'.length cp')) 28)) (w.heap.size + 1) 28 (richA k' d' (.slice ao' l'.length cp')) from by
    have h := Box.made (w.alloc (.cells (richA k d (.slice ao l.length cp)) 28)) 28 (richA k' d' (.slice ao' l'.length cp'))
    rw [World.size_alloc] at h
    exact h)
  have HK := Lib.hid (((Kept.refl (fun _ => False) w).alloc (.cells (richA k d (.slice ao l.length cp)) 28)).alloc (.cells (richA k' d' (.slice ao' l'.length cp')) 28))
  go_enter Tryz.func6, Tryz.ntmps6
  go_wp2_with (first
    | (go_at_call 7; (with_reducible refine (L1 _ HK.out).mono ?_); rintro e w3 ⟨rfl, hk3⟩; have HK := Lib.hid (Kept.trans HK.out hk3 (fun _ _ h => h)); have HA := Lib.hid (hk3.box HA.out (fun h => h)); have a0 := HA.out.cell 0; have a1 := HA.out.cell 1; have a2 := HA.out.cell 2; have a3 := HA.out.cell 3; have a4 := HA.out.cell 4; have a5 := HA.out.cell 5; have a6 := HA.out.cell 6; have HB := Lib.hid (hk3.box HB.out (fun h => h)); have b0 := HB.out.cell 0; have b1 := HB.out.cell 1; have b2 := HB.out.cell 2; have b3 := HB.out.cell 3; have b4 := HB.out.cell 4; have b5 := HB.out.cell 5; have b6 := HB.out.cell 6; clear hk3)
    | (go_at_call 7; (with_reducible refine (L2 _ HK.out).mono ?_); rintro e w4 ⟨rfl, hk4⟩; have HK := Lib.hid (Kept.trans HK.out hk4 (fun _ _ h => h)); have HA := Lib.hid (hk4.box HA.out (fun h => h)); have a0 := HA.out.cell 0; have a1 := HA.out.cell 1; have a2 := HA.out.cell 2; have a3 := HA.out.cell 3; have a4 := HA.out.cell 4; have a5 := HA.out.cell 5; have a6 := HA.out.cell 6; have HB := Lib.hid (hk4.box HB.out (fun h => h)); have b0 := HB.out.cell 0; have b1 := HB.out.cell 1; have b2 := HB.out.cell 2; have b3 := HB.out.cell 3; have b4 := HB.out.cell 4; have b5 := HB.out.cell 5; have b6 := HB.out.cell 6; clear hk4)
    | (go_at_call 8; (with_reducible refine (AC _ HK.out).mono ?_); rintro e w5 ⟨rfl, hk5⟩; have HK := Lib.hid (Kept.trans HK.out hk5 (fun _ _ h => h)); have HA := Lib.hid (hk5.box HA.out (fun h => h)); have a0 := HA.out.cell 0; have a1 := HA.out.cell 1; have a2 := HA.out.cell 2; have a3 := HA.out.cell 3; have a4 := HA.out.cell 4; have a5 := HA.out.cell 5; have a6 := HA.out.cell 6; have HB := Lib.hid (hk5.box HB.out (fun h => h)); have b0 := HB.out.cell 0; have b1 := HB.out.cell 1; have b2 := HB.out.cell 2; have b3 := HB.out.cell 3; have b4 := HB.out.cell 4; have b5 := HB.out.cell 5; have b6 := HB.out.cell 6; clear hk5)
    | (go_at_call 15; (with_reducible refine (WC _ HK.out).mono ?_); rintro e w6 ⟨rfl, hk6⟩; have HK := Lib.hid (Kept.trans HK.out hk6 (fun _ _ h => h)); have HA := Lib.hid (hk6.box HA.out (fun h => h)); have a0 := HA.out.cell 0; have a1 := HA.out.cell 1; have a2 := HA.out.cell 2; have a3 := HA.out.cell 3; have a4 := HA.out.cell 4; have a5 := HA.out.cell 5; have a6 := HA.out.cell 6; have HB := Lib.hid (hk6.box HB.out (fun h => h)); have b0 := HB.out.cell 0; have b1 := HB.out.cell 1; have b2 := HB.out.cell 2; have b3 := HB.out.cell 3; have b4 := HB.out.cell 4; have b5 := HB.out.cell 5; have b6 := HB.out.cell 6; clear hk6)
    | fail)
  go_ret
  exact ⟨rfl, HK.out⟩
set_option maxRecDepth 100000 in
set_option maxHeartbeats 8000000 in
theorem parts_kind (w : World) (hAw : AwakeK8 w) (hWh : WholeK8 w) (x y : R) (v v' : Value) (hr : RichS w x v) (hr' : RichS w y v') (hf : fitsX x) (hf' : fitsX y) (g1 : (muchX x 0).2 = false) (g2 : (muchX y 0).2 = false) (hx : whole x = true) (hkk : ¬ (x.kind = 2 ∨ x.kind = 3 ∨ x.kind = 6)) :
    Calls Tryz.prog 6 #[v, v'] w fun e w' => e = .returned (.bool true) ∧ Kept (fun _ => False) w w' := by
  have AC := fun W (hk : Kept (fun _ => False) w W) => hAw W hk
  have L1 := fun W (hk : Kept (fun _ => False) w W) => large8_walk x v W (RichS.kept hk x v hr) hf
  have L2 := fun W (hk : Kept (fun _ => False) w W) => large8_walk y v' W (RichS.kept hk y v' hr') hf'
  rw [g1] at L1
  rw [g2] at L2
  obtain ⟨s1, c1⟩ := large_no g1
  obtain ⟨s2, c2⟩ := large_no g2
  have WX := fun W (hk : Kept (fun _ => False) w W) => hWh x v W (RichS.kept hk x v hr) s1 c1 hk
  rw [hx] at WX
  have WM := fun W (hk : Kept (fun _ => False) w W) => hWh y v' W (RichS.kept hk y v' hr') s2 c2 hk
  have HWH := Lib.hid hWh
  have HRX := Lib.hid hr
  have HX := Lib.hid hx
  have HS1 := Lib.hid s1
  have HC1 := Lib.hid c1
  clear hWh hAw g1 g2 s1 s2 c1 c2 hx
  obtain ⟨k, d, l⟩ := x
  obtain ⟨k', d', l'⟩ := y
  rw [RichS] at hr hr'
  obtain ⟨ao, cp, rfl, hkb, hdb, hAr⟩ := hr
  obtain ⟨ao', cp', rfl, hkb', hdb', hBr⟩ := hr'
  have HA := Lib.hid ((Box.made w 28 (richA k d (.slice ao l.length cp))).after_alloc (.cells (richA k' d' (.slice ao' l'.length cp')) 28))
  have HB := Lib.hid (show Box ((w.alloc (.cells (richA k d (.slice ao l.length cp)) 28)).alloc (.cells (richA k' d' (.slice ao' l'.length cp')) 28)) (w.heap.size + 1) 28 (richA k' d' (.slice ao' l'.length cp')) from by
    have h := Box.made (w.alloc (.cells (richA k d (.slice ao l.length cp)) 28)) 28 (richA k' d' (.slice ao' l'.length cp'))
    rw [World.size_alloc] at h
    exact h)
  have HK := Lib.hid (((Kept.refl (fun _ => False) w).alloc (.cells (richA k d (.slice ao l.length cp)) 28)).alloc (.cells (richA k' d' (.slice ao' l'.length cp')) 28))
  have HAR := Lib.hid hAr
  have HBR := Lib.hid hBr
  have HDB := Lib.hid (And.intro hkb hdb)
  have HDB' := Lib.hid (And.intro hkb' hdb')
  have hl100 : l.length ≤ 100 := by
    have h := HS1.out
    rw [smallX] at h
    exact h.2.2.1
  clear hAr hBr hdb hdb' hkb hf hf'
  go_enter Tryz.func6, Tryz.ntmps6
  go_wp2_with (first
    | (go_at_call 7; (with_reducible refine (L1 _ HK.out).mono ?_); rintro e w3 ⟨rfl, hk3⟩; have HK := Lib.hid (Kept.trans HK.out hk3 (fun _ _ h => h)); have HA := Lib.hid (hk3.box HA.out (fun h => h)); have a0 := HA.out.cell 0; have a1 := HA.out.cell 1; have a2 := HA.out.cell 2; have a3 := HA.out.cell 3; have a4 := HA.out.cell 4; have a5 := HA.out.cell 5; have a6 := HA.out.cell 6; have HB := Lib.hid (hk3.box HB.out (fun h => h)); have b0 := HB.out.cell 0; have b1 := HB.out.cell 1; have b2 := HB.out.cell 2; have b3 := HB.out.cell 3; have b4 := HB.out.cell 4; have b5 := HB.out.cell 5; have b6 := HB.out.cell 6; clear hk3)
    | (go_at_call 7; (with_reducible refine (L2 _ HK.out).mono ?_); rintro e w4 ⟨rfl, hk4⟩; have HK := Lib.hid (Kept.trans HK.out hk4 (fun _ _ h => h)); have HA := Lib.hid (hk4.box HA.out (fun h => h)); have a0 := HA.out.cell 0; have a1 := HA.out.cell 1; have a2 := HA.out.cell 2; have a3 := HA.out.cell 3; have a4 := HA.out.cell 4; have a5 := HA.out.cell 5; have a6 := HA.out.cell 6; have HB := Lib.hid (hk4.box HB.out (fun h => h)); have b0 := HB.out.cell 0; have b1 := HB.out.cell 1; have b2 := HB.out.cell 2; have b3 := HB.out.cell 3; have b4 := HB.out.cell 4; have b5 := HB.out.cell 5; have b6 := HB.out.cell 6; clear hk4)
    | (go_at_call 8; (with_reducible refine (AC _ HK.out).mono ?_); rintro e w5 ⟨rfl, hk5⟩; have HK := Lib.hid (Kept.trans HK.out hk5 (fun _ _ h => h)); have HA := Lib.hid (hk5.box HA.out (fun h => h)); have a0 := HA.out.cell 0; have a1 := HA.out.cell 1; have a2 := HA.out.cell 2; have a3 := HA.out.cell 3; have a4 := HA.out.cell 4; have a5 := HA.out.cell 5; have a6 := HA.out.cell 6; have HB := Lib.hid (hk5.box HB.out (fun h => h)); have b0 := HB.out.cell 0; have b1 := HB.out.cell 1; have b2 := HB.out.cell 2; have b3 := HB.out.cell 3; have b4 := HB.out.cell 4; have b5 := HB.out.cell 5; have b6 := HB.out.cell 6; clear hk5)
    | (go_at_call 15; (with_reducible refine (WX _ HK.out).mono ?_); rintro e w6 ⟨rfl, hk6⟩; have HK := Lib.hid (Kept.trans HK.out hk6 (fun _ _ h => h)); have HA := Lib.hid (hk6.box HA.out (fun h => h)); have a0 := HA.out.cell 0; have a1 := HA.out.cell 1; have a2 := HA.out.cell 2; have a3 := HA.out.cell 3; have a4 := HA.out.cell 4; have a5 := HA.out.cell 5; have a6 := HA.out.cell 6; have HB := Lib.hid (hk6.box HB.out (fun h => h)); have b0 := HB.out.cell 0; have b1 := HB.out.cell 1; have b2 := HB.out.cell 2; have b3 := HB.out.cell 3; have b4 := HB.out.cell 4; have b5 := HB.out.cell 5; have b6 := HB.out.cell 6; clear hk6)
    | fail)
  clear L1 L2 AC WX
  clear a0 a1 a2 a3 a4 a5 a6 b0 b1 b2 b3 b4 b5 b6
  go_loopw [5] (fun v5 wr => ∃ i : Nat, v5 = .int .i64 (i : Int) ∧ i ≤ l.length ∧ Hid (Box wr w.heap.size 28 (richA k d (.slice ao l.length cp))) ∧ Hid (Box wr (w.heap.size + 1) 28 (richA k' d' (.slice ao' l'.length cp'))) ∧ Hid (Kept (fun _ => False) w wr)) (fun v5 _ => l.length - (intOf v5).toNat)
  case atStart => exact ⟨0, rfl, Nat.zero_le _, HA, HB, HK⟩
  case round =>
    repeat clear HA
    repeat clear HB
    repeat clear HK
    obtain ⟨i, rfl, hi, HA, HB, HK⟩ := hrel
    rename World => wr
    by_cases hlt : i < l.length
    · obtain ⟨x, hx⟩ : ∃ x, l[i]? = some x := ⟨_, List.getElem?_eq_getElem hlt⟩
      obtain ⟨b, off, ao1, cp1, rfl, hb, hrx, h0, h1, h2, h3, h4, h5, h6⟩ := HAR.out.part hx
      have hxm := List.mem_of_getElem? hx
      have hwx := whole_args HX.out x hxm
      have hsx : smallX x := by
        have h := HS1.out
        rw [smallX] at h
        exact smallL_mem h.2.2.2 hxm
      have hcx : count x ≤ 2000 := by
        have h := (count_mem hxm).1
        have h2 := HC1.out
        rw [count] at h2
        omega
      have WC := HWH.out x _ wr (RichS.kept HK.out x _ hrx) hsx hcx HK.out
      rw [hwx] at WC
      have d0 := (HK.out.cell (p := ⟨b, off + i * 7, none⟩) hb (fun h => h)).trans h0
      have d1 := (HK.out.cell (p := ⟨b, off + i * 7 + 1, none⟩) hb (fun h => h)).trans h1
      have d2 := (HK.out.cell (p := ⟨b, off + i * 7 + 2, none⟩) hb (fun h => h)).trans h2
      have d3 := (HK.out.cell (p := ⟨b, off + i * 7 + 3, none⟩) hb (fun h => h)).trans h3
      have d4 := (HK.out.cell (p := ⟨b, off + i * 7 + 4, none⟩) hb (fun h => h)).trans h4
      have d5 := (HK.out.cell (p := ⟨b, off + i * 7 + 5, none⟩) hb (fun h => h)).trans h5
      have d6 := (HK.out.cell (p := ⟨b, off + i * 7 + 6, none⟩) hb (fun h => h)).trans h6
      have hi0 : (0 : Int) ≤ (i : Int) := by omega
      have hiI : (i : Int) < (l.length : Int) := by omega
      have a6 := HA.out.cell 6
      obtain ⟨kx, dx, lx⟩ := x
      clear hx hrx h0 h1 h2 h3 h4 h5 h6 hxm hwx hsx hcx
      go_wp2_with (first
        | (go_at_call 15; refine WC.mono ?_; rintro e w5 ⟨rfl, hk5⟩; have HA := Lib.hid (hk5.box HA.out (fun h => h)); have HB := Lib.hid (hk5.box HB.out (fun h => h)); have HK := Lib.hid (HK.out.trans hk5 (fun _ _ h => h)); clear hk5)
        | fail)
      go_roundw
      case rel => exact ⟨i + 1, by go_num, by omega, HA, HB, HK⟩
      case measure => simp [intOf]; omega
    · obtain rfl : i = l.length := by omega
      have hge : ¬ (l.length : Int) < (l.length : Int) := by omega
      have a0 := HA.out.cell 0; have a1 := HA.out.cell 1; have a2 := HA.out.cell 2; have a3 := HA.out.cell 3; have a4 := HA.out.cell 4; have a5 := HA.out.cell 5; have a6 := HA.out.cell 6
      have b0 := HB.out.cell 0; have b1 := HB.out.cell 1; have b2 := HB.out.cell 2; have b3 := HB.out.cell 3; have b4 := HB.out.cell 4; have b5 := HB.out.cell 5; have b6 := HB.out.cell 6
      clear hlt
      have hkk' : ¬ (k = 2 ∨ k = 3 ∨ k = 6) := hkk
      have k2 : ((k : Int) != 2) = true := bne_iff_ne.2 (by omega)
      have k3 : ((k : Int) != 3) = true := bne_iff_ne.2 (by omega)
      have k6 : ((k : Int) != 6) = true := bne_iff_ne.2 (by omega)
      clear hkk' hkk WM
      go_wp2_with fail
      go_ret
      exact ⟨rfl, HK.out⟩
set_option maxRecDepth 100000 in
set_option maxHeartbeats 8000000 in
theorem parts_more (w : World) (hAw : AwakeK8 w) (hWh : WholeK8 w) (x y : R) (v v' : Value) (hr : RichS w x v) (hr' : RichS w y v') (hf : fitsX x) (hf' : fitsX y) (g1 : (muchX x 0).2 = false) (g2 : (muchX y 0).2 = false) (hx : whole x = true) (hkk : x.kind = 2 ∨ x.kind = 3 ∨ x.kind = 6) (hm : y.kind ≠ 1) :
    Calls Tryz.prog 6 #[v, v'] w fun e w' => e = .returned (.bool true) ∧ Kept (fun _ => False) w w' := by
  have AC := fun W (hk : Kept (fun _ => False) w W) => hAw W hk
  have L1 := fun W (hk : Kept (fun _ => False) w W) => large8_walk x v W (RichS.kept hk x v hr) hf
  have L2 := fun W (hk : Kept (fun _ => False) w W) => large8_walk y v' W (RichS.kept hk y v' hr') hf'
  rw [g1] at L1
  rw [g2] at L2
  obtain ⟨s1, c1⟩ := large_no g1
  obtain ⟨s2, c2⟩ := large_no g2
  have WX := fun W (hk : Kept (fun _ => False) w W) => hWh x v W (RichS.kept hk x v hr) s1 c1 hk
  rw [hx] at WX
  have WM := fun W (hk : Kept (fun _ => False) w W) => hWh y v' W (RichS.kept hk y v' hr') s2 c2 hk
  have HWH := Lib.hid hWh
  have HRX := Lib.hid hr
  have HX := Lib.hid hx
  have HS1 := Lib.hid s1
  have HC1 := Lib.hid c1
  clear hWh hAw g1 g2 s1 s2 c1 c2 hx
  obtain ⟨k, d, l⟩ := x
  obtain ⟨k', d', l'⟩ := y
  rw [RichS] at hr hr'
  obtain ⟨ao, cp, rfl, hkb, hdb, hAr⟩ := hr
  obtain ⟨ao', cp', rfl, hkb', hdb', hBr⟩ := hr'
  have HA := Lib.hid ((Box.made w 28 (richA k d (.slice ao l.length cp))).after_alloc (.cells (richA k' d' (.slice ao' l'.length cp')) 28))
  have HB := Lib.hid (show Box ((w.alloc (.cells (richA k d (.slice ao l.length cp)) 28)).alloc (.cells (richA k' d' (.slice ao' l'.length cp')) 28)) (w.heap.size + 1) 28 (richA k' d' (.slice ao' l'.length cp')) from by
    have h := Box.made (w.alloc (.cells (richA k d (.slice ao l.length cp)) 28)) 28 (richA k' d' (.slice ao' l'.length cp'))
    rw [World.size_alloc] at h
    exact h)
  have HK := Lib.hid (((Kept.refl (fun _ => False) w).alloc (.cells (richA k d (.slice ao l.length cp)) 28)).alloc (.cells (richA k' d' (.slice ao' l'.length cp')) 28))
  have HAR := Lib.hid hAr
  have HBR := Lib.hid hBr
  have HDB := Lib.hid (And.intro hkb hdb)
  have HDB' := Lib.hid (And.intro hkb' hdb')
  have hl100 : l.length ≤ 100 := by
    have h := HS1.out
    rw [smallX] at h
    exact h.2.2.1
  clear hAr hBr hdb hdb' hkb hf hf'
  go_enter Tryz.func6, Tryz.ntmps6
  go_wp2_with (first
    | (go_at_call 7; (with_reducible refine (L1 _ HK.out).mono ?_); rintro e w3 ⟨rfl, hk3⟩; have HK := Lib.hid (Kept.trans HK.out hk3 (fun _ _ h => h)); have HA := Lib.hid (hk3.box HA.out (fun h => h)); have a0 := HA.out.cell 0; have a1 := HA.out.cell 1; have a2 := HA.out.cell 2; have a3 := HA.out.cell 3; have a4 := HA.out.cell 4; have a5 := HA.out.cell 5; have a6 := HA.out.cell 6; have HB := Lib.hid (hk3.box HB.out (fun h => h)); have b0 := HB.out.cell 0; have b1 := HB.out.cell 1; have b2 := HB.out.cell 2; have b3 := HB.out.cell 3; have b4 := HB.out.cell 4; have b5 := HB.out.cell 5; have b6 := HB.out.cell 6; clear hk3)
    | (go_at_call 7; (with_reducible refine (L2 _ HK.out).mono ?_); rintro e w4 ⟨rfl, hk4⟩; have HK := Lib.hid (Kept.trans HK.out hk4 (fun _ _ h => h)); have HA := Lib.hid (hk4.box HA.out (fun h => h)); have a0 := HA.out.cell 0; have a1 := HA.out.cell 1; have a2 := HA.out.cell 2; have a3 := HA.out.cell 3; have a4 := HA.out.cell 4; have a5 := HA.out.cell 5; have a6 := HA.out.cell 6; have HB := Lib.hid (hk4.box HB.out (fun h => h)); have b0 := HB.out.cell 0; have b1 := HB.out.cell 1; have b2 := HB.out.cell 2; have b3 := HB.out.cell 3; have b4 := HB.out.cell 4; have b5 := HB.out.cell 5; have b6 := HB.out.cell 6; clear hk4)
    | (go_at_call 8; (with_reducible refine (AC _ HK.out).mono ?_); rintro e w5 ⟨rfl, hk5⟩; have HK := Lib.hid (Kept.trans HK.out hk5 (fun _ _ h => h)); have HA := Lib.hid (hk5.box HA.out (fun h => h)); have a0 := HA.out.cell 0; have a1 := HA.out.cell 1; have a2 := HA.out.cell 2; have a3 := HA.out.cell 3; have a4 := HA.out.cell 4; have a5 := HA.out.cell 5; have a6 := HA.out.cell 6; have HB := Lib.hid (hk5.box HB.out (fun h => h)); have b0 := HB.out.cell 0; have b1 := HB.out.cell 1; have b2 := HB.out.cell 2; have b3 := HB.out.cell 3; have b4 := HB.out.cell 4; have b5 := HB.out.cell 5; have b6 := HB.out.cell 6; clear hk5)
    | (go_at_call 15; (with_reducible refine (WX _ HK.out).mono ?_); rintro e w6 ⟨rfl, hk6⟩; have HK := Lib.hid (Kept.trans HK.out hk6 (fun _ _ h => h)); have HA := Lib.hid (hk6.box HA.out (fun h => h)); have a0 := HA.out.cell 0; have a1 := HA.out.cell 1; have a2 := HA.out.cell 2; have a3 := HA.out.cell 3; have a4 := HA.out.cell 4; have a5 := HA.out.cell 5; have a6 := HA.out.cell 6; have HB := Lib.hid (hk6.box HB.out (fun h => h)); have b0 := HB.out.cell 0; have b1 := HB.out.cell 1; have b2 := HB.out.cell 2; have b3 := HB.out.cell 3; have b4 := HB.out.cell 4; have b5 := HB.out.cell 5; have b6 := HB.out.cell 6; clear hk6)
    | fail)
  clear L1 L2 AC WX
  clear a0 a1 a2 a3 a4 a5 a6 b0 b1 b2 b3 b4 b5 b6
  go_loopw [5] (fun v5 wr => ∃ i : Nat, v5 = .int .i64 (i : Int) ∧ i ≤ l.length ∧ Hid (Box wr w.heap.size 28 (richA k d (.slice ao l.length cp))) ∧ Hid (Box wr (w.heap.size + 1) 28 (richA k' d' (.slice ao' l'.length cp'))) ∧ Hid (Kept (fun _ => False) w wr)) (fun v5 _ => l.length - (intOf v5).toNat)
  case atStart => exact ⟨0, rfl, Nat.zero_le _, HA, HB, HK⟩
  case round =>
    repeat clear HA
    repeat clear HB
    repeat clear HK
    obtain ⟨i, rfl, hi, HA, HB, HK⟩ := hrel
    rename World => wr
    by_cases hlt : i < l.length
    · obtain ⟨x, hx⟩ : ∃ x, l[i]? = some x := ⟨_, List.getElem?_eq_getElem hlt⟩
      obtain ⟨b, off, ao1, cp1, rfl, hb, hrx, h0, h1, h2, h3, h4, h5, h6⟩ := HAR.out.part hx
      have hxm := List.mem_of_getElem? hx
      have hwx := whole_args HX.out x hxm
      have hsx : smallX x := by
        have h := HS1.out
        rw [smallX] at h
        exact smallL_mem h.2.2.2 hxm
      have hcx : count x ≤ 2000 := by
        have h := (count_mem hxm).1
        have h2 := HC1.out
        rw [count] at h2
        omega
      have WC := HWH.out x _ wr (RichS.kept HK.out x _ hrx) hsx hcx HK.out
      rw [hwx] at WC
      have d0 := (HK.out.cell (p := ⟨b, off + i * 7, none⟩) hb (fun h => h)).trans h0
      have d1 := (HK.out.cell (p := ⟨b, off + i * 7 + 1, none⟩) hb (fun h => h)).trans h1
      have d2 := (HK.out.cell (p := ⟨b, off + i * 7 + 2, none⟩) hb (fun h => h)).trans h2
      have d3 := (HK.out.cell (p := ⟨b, off + i * 7 + 3, none⟩) hb (fun h => h)).trans h3
      have d4 := (HK.out.cell (p := ⟨b, off + i * 7 + 4, none⟩) hb (fun h => h)).trans h4
      have d5 := (HK.out.cell (p := ⟨b, off + i * 7 + 5, none⟩) hb (fun h => h)).trans h5
      have d6 := (HK.out.cell (p := ⟨b, off + i * 7 + 6, none⟩) hb (fun h => h)).trans h6
      have hi0 : (0 : Int) ≤ (i : Int) := by omega
      have hiI : (i : Int) < (l.length : Int) := by omega
      have a6 := HA.out.cell 6
      obtain ⟨kx, dx, lx⟩ := x
      clear hx hrx h0 h1 h2 h3 h4 h5 h6 hxm hwx hsx hcx
      go_wp2_with (first
        | (go_at_call 15; refine WC.mono ?_; rintro e w5 ⟨rfl, hk5⟩; have HA := Lib.hid (hk5.box HA.out (fun h => h)); have HB := Lib.hid (hk5.box HB.out (fun h => h)); have HK := Lib.hid (HK.out.trans hk5 (fun _ _ h => h)); clear hk5)
        | fail)
      go_roundw
      case rel => exact ⟨i + 1, by go_num, by omega, HA, HB, HK⟩
      case measure => simp [intOf]; omega
    · obtain rfl : i = l.length := by omega
      have hge : ¬ (l.length : Int) < (l.length : Int) := by omega
      have a0 := HA.out.cell 0; have a1 := HA.out.cell 1; have a2 := HA.out.cell 2; have a3 := HA.out.cell 3; have a4 := HA.out.cell 4; have a5 := HA.out.cell 5; have a6 := HA.out.cell 6
      have b0 := HB.out.cell 0; have b1 := HB.out.cell 1; have b2 := HB.out.cell 2; have b3 := HB.out.cell 3; have b4 := HB.out.cell 4; have b5 := HB.out.cell 5; have b6 := HB.out.cell 6
      clear hlt
      have HKK := Lib.hid (show k = 2 ∨ k = 3 ∨ k = 6 from hkk)
      have hkq : ∀ m : Nat, ∀ b : Bool, decide (k ≠ m) = b → (((k : Int) != (m : Int)) = b) := by
        intro m b hb
        rw [← hb]
        by_cases h : k = m
        · rw [decide_eq_false (fun hn => hn h), h]; simp
        · rw [decide_eq_true h]; exact bne_iff_ne.2 (by omega)
      have hways : (((k : Int) != 2) = false ∧ ((k : Int) != 3) = true ∧ ((k : Int) != 6) = true) ∨ (((k : Int) != 2) = true ∧ ((k : Int) != 3) = false ∧ ((k : Int) != 6) = true) ∨ (((k : Int) != 2) = true ∧ ((k : Int) != 3) = true ∧ ((k : Int) != 6) = false) := by
        have := hkq 2
        have h3 := hkq 3
        have h6 := hkq 6
        rcases HKK.out with rfl | rfl | rfl
        · exact .inl ⟨this _ rfl, h3 _ rfl, h6 _ rfl⟩
        · exact .inr (.inl ⟨this _ rfl, h3 _ rfl, h6 _ rfl⟩)
        · exact .inr (.inr ⟨this _ rfl, h3 _ rfl, h6 _ rfl⟩)
      clear hkq
      have hm' : k' ≠ 1 := hm
      have m1 : ((k' : Int) != 1) = true := bne_iff_ne.2 (by omega)
      clear hm' hm hkk WM
      rcases hways with ⟨k2, k3, k6⟩ | ⟨k2, k3, k6⟩ | ⟨k2, k3, k6⟩
      all_goals
        go_wp2_with fail
        go_ret
        exact ⟨rfl, HK.out⟩
set_option maxRecDepth 100000 in
set_option maxHeartbeats 8000000 in
theorem parts_more2 (w : World) (hAw : AwakeK8 w) (hWh : WholeK8 w) (x y : R) (v v' : Value) (hr : RichS w x v) (hr' : RichS w y v') (hf : fitsX x) (hf' : fitsX y) (g1 : (muchX x 0).2 = false) (g2 : (muchX y 0).2 = false) (hx : whole x = true) (hkk : x.kind = 2 ∨ x.kind = 3 ∨ x.kind = 6) (hm : y.kind = 1) (hy : whole y = false) :
    Calls Tryz.prog 6 #[v, v'] w fun e w' => e = .returned (.bool true) ∧ Kept (fun _ => False) w w' := by
  have AC := fun W (hk : Kept (fun _ => False) w W) => hAw W hk
  have L1 := fun W (hk : Kept (fun _ => False) w W) => large8_walk x v W (RichS.kept hk x v hr) hf
  have L2 := fun W (hk : Kept (fun _ => False) w W) => large8_walk y v' W (RichS.kept hk y v' hr') hf'
  rw [g1] at L1
  rw [g2] at L2
  obtain ⟨s1, c1⟩ := large_no g1
  obtain ⟨s2, c2⟩ := large_no g2
  have WX := fun W (hk : Kept (fun _ => False) w W) => hWh x v W (RichS.kept hk x v hr) s1 c1 hk
  rw [hx] at WX
  have WM := fun W (hk : Kept (fun _ => False) w W) => hWh y v' W (RichS.kept hk y v' hr') s2 c2 hk
  have HWH := Lib.hid hWh
  have HRX := Lib.hid hr
  have HX := Lib.hid hx
  have HS1 := Lib.hid s1
  have HC1 := Lib.hid c1
  clear hWh hAw g1 g2 s1 s2 c1 c2 hx
  obtain ⟨k, d, l⟩ := x
  obtain ⟨k', d', l'⟩ := y
  rw [RichS] at hr hr'
  obtain ⟨ao, cp, rfl, hkb, hdb, hAr⟩ := hr
  obtain ⟨ao', cp', rfl, hkb', hdb', hBr⟩ := hr'
  have HA := Lib.hid ((Box.made w 28 (richA k d (.slice ao l.length cp))).after_alloc (.cells (richA k' d' (.slice ao' l'.length cp')) 28))
  have HB := Lib.hid (show Box ((w.alloc (.cells (richA k d (.slice ao l.length cp)) 28)).alloc (.cells (richA k' d' (.slice ao' l'.length cp')) 28)) (w.heap.size + 1) 28 (richA k' d' (.slice ao' l'.length cp')) from by
    have h := Box.made (w.alloc (.cells (richA k d (.slice ao l.length cp)) 28)) 28 (richA k' d' (.slice ao' l'.length cp'))
    rw [World.size_alloc] at h
    exact h)
  have HK := Lib.hid (((Kept.refl (fun _ => False) w).alloc (.cells (richA k d (.slice ao l.length cp)) 28)).alloc (.cells (richA k' d' (.slice ao' l'.length cp')) 28))
  have HAR := Lib.hid hAr
  have HBR := Lib.hid hBr
  have HDB := Lib.hid (And.intro hkb hdb)
  have HDB' := Lib.hid (And.intro hkb' hdb')
  have hl100 : l.length ≤ 100 := by
    have h := HS1.out
    rw [smallX] at h
    exact h.2.2.1
  clear hAr hBr hdb hdb' hkb hf hf'
  go_enter Tryz.func6, Tryz.ntmps6
  go_wp2_with (first
    | (go_at_call 7; (with_reducible refine (L1 _ HK.out).mono ?_); rintro e w3 ⟨rfl, hk3⟩; have HK := Lib.hid (Kept.trans HK.out hk3 (fun _ _ h => h)); have HA := Lib.hid (hk3.box HA.out (fun h => h)); have a0 := HA.out.cell 0; have a1 := HA.out.cell 1; have a2 := HA.out.cell 2; have a3 := HA.out.cell 3; have a4 := HA.out.cell 4; have a5 := HA.out.cell 5; have a6 := HA.out.cell 6; have HB := Lib.hid (hk3.box HB.out (fun h => h)); have b0 := HB.out.cell 0; have b1 := HB.out.cell 1; have b2 := HB.out.cell 2; have b3 := HB.out.cell 3; have b4 := HB.out.cell 4; have b5 := HB.out.cell 5; have b6 := HB.out.cell 6; clear hk3)
    | (go_at_call 7; (with_reducible refine (L2 _ HK.out).mono ?_); rintro e w4 ⟨rfl, hk4⟩; have HK := Lib.hid (Kept.trans HK.out hk4 (fun _ _ h => h)); have HA := Lib.hid (hk4.box HA.out (fun h => h)); have a0 := HA.out.cell 0; have a1 := HA.out.cell 1; have a2 := HA.out.cell 2; have a3 := HA.out.cell 3; have a4 := HA.out.cell 4; have a5 := HA.out.cell 5; have a6 := HA.out.cell 6; have HB := Lib.hid (hk4.box HB.out (fun h => h)); have b0 := HB.out.cell 0; have b1 := HB.out.cell 1; have b2 := HB.out.cell 2; have b3 := HB.out.cell 3; have b4 := HB.out.cell 4; have b5 := HB.out.cell 5; have b6 := HB.out.cell 6; clear hk4)
    | (go_at_call 8; (with_reducible refine (AC _ HK.out).mono ?_); rintro e w5 ⟨rfl, hk5⟩; have HK := Lib.hid (Kept.trans HK.out hk5 (fun _ _ h => h)); have HA := Lib.hid (hk5.box HA.out (fun h => h)); have a0 := HA.out.cell 0; have a1 := HA.out.cell 1; have a2 := HA.out.cell 2; have a3 := HA.out.cell 3; have a4 := HA.out.cell 4; have a5 := HA.out.cell 5; have a6 := HA.out.cell 6; have HB := Lib.hid (hk5.box HB.out (fun h => h)); have b0 := HB.out.cell 0; have b1 := HB.out.cell 1; have b2 := HB.out.cell 2; have b3 := HB.out.cell 3; have b4 := HB.out.cell 4; have b5 := HB.out.cell 5; have b6 := HB.out.cell 6; clear hk5)
    | (go_at_call 15; (with_reducible refine (WX _ HK.out).mono ?_); rintro e w6 ⟨rfl, hk6⟩; have HK := Lib.hid (Kept.trans HK.out hk6 (fun _ _ h => h)); have HA := Lib.hid (hk6.box HA.out (fun h => h)); have a0 := HA.out.cell 0; have a1 := HA.out.cell 1; have a2 := HA.out.cell 2; have a3 := HA.out.cell 3; have a4 := HA.out.cell 4; have a5 := HA.out.cell 5; have a6 := HA.out.cell 6; have HB := Lib.hid (hk6.box HB.out (fun h => h)); have b0 := HB.out.cell 0; have b1 := HB.out.cell 1; have b2 := HB.out.cell 2; have b3 := HB.out.cell 3; have b4 := HB.out.cell 4; have b5 := HB.out.cell 5; have b6 := HB.out.cell 6; clear hk6)
    | fail)
  clear L1 L2 AC WX
  clear a0 a1 a2 a3 a4 a5 a6 b0 b1 b2 b3 b4 b5 b6
  go_loopw [5] (fun v5 wr => ∃ i : Nat, v5 = .int .i64 (i : Int) ∧ i ≤ l.length ∧ Hid (Box wr w.heap.size 28 (richA k d (.slice ao l.length cp))) ∧ Hid (Box wr (w.heap.size + 1) 28 (richA k' d' (.slice ao' l'.length cp'))) ∧ Hid (Kept (fun _ => False) w wr)) (fun v5 _ => l.length - (intOf v5).toNat)
  case atStart => exact ⟨0, rfl, Nat.zero_le _, HA, HB, HK⟩
  case round =>
    repeat clear HA
    repeat clear HB
    repeat clear HK
    obtain ⟨i, rfl, hi, HA, HB, HK⟩ := hrel
    rename World => wr
    by_cases hlt : i < l.length
    · obtain ⟨x, hx⟩ : ∃ x, l[i]? = some x := ⟨_, List.getElem?_eq_getElem hlt⟩
      obtain ⟨b, off, ao1, cp1, rfl, hb, hrx, h0, h1, h2, h3, h4, h5, h6⟩ := HAR.out.part hx
      have hxm := List.mem_of_getElem? hx
      have hwx := whole_args HX.out x hxm
      have hsx : smallX x := by
        have h := HS1.out
        rw [smallX] at h
        exact smallL_mem h.2.2.2 hxm
      have hcx : count x ≤ 2000 := by
        have h := (count_mem hxm).1
        have h2 := HC1.out
        rw [count] at h2
        omega
      have WC := HWH.out x _ wr (RichS.kept HK.out x _ hrx) hsx hcx HK.out
      rw [hwx] at WC
      have d0 := (HK.out.cell (p := ⟨b, off + i * 7, none⟩) hb (fun h => h)).trans h0
      have d1 := (HK.out.cell (p := ⟨b, off + i * 7 + 1, none⟩) hb (fun h => h)).trans h1
      have d2 := (HK.out.cell (p := ⟨b, off + i * 7 + 2, none⟩) hb (fun h => h)).trans h2
      have d3 := (HK.out.cell (p := ⟨b, off + i * 7 + 3, none⟩) hb (fun h => h)).trans h3
      have d4 := (HK.out.cell (p := ⟨b, off + i * 7 + 4, none⟩) hb (fun h => h)).trans h4
      have d5 := (HK.out.cell (p := ⟨b, off + i * 7 + 5, none⟩) hb (fun h => h)).trans h5
      have d6 := (HK.out.cell (p := ⟨b, off + i * 7 + 6, none⟩) hb (fun h => h)).trans h6
      have hi0 : (0 : Int) ≤ (i : Int) := by omega
      have hiI : (i : Int) < (l.length : Int) := by omega
      have a6 := HA.out.cell 6
      obtain ⟨kx, dx, lx⟩ := x
      clear hx hrx h0 h1 h2 h3 h4 h5 h6 hxm hwx hsx hcx
      go_wp2_with (first
        | (go_at_call 15; refine WC.mono ?_; rintro e w5 ⟨rfl, hk5⟩; have HA := Lib.hid (hk5.box HA.out (fun h => h)); have HB := Lib.hid (hk5.box HB.out (fun h => h)); have HK := Lib.hid (HK.out.trans hk5 (fun _ _ h => h)); clear hk5)
        | fail)
      go_roundw
      case rel => exact ⟨i + 1, by go_num, by omega, HA, HB, HK⟩
      case measure => simp [intOf]; omega
    · obtain rfl : i = l.length := by omega
      have hge : ¬ (l.length : Int) < (l.length : Int) := by omega
      have a0 := HA.out.cell 0; have a1 := HA.out.cell 1; have a2 := HA.out.cell 2; have a3 := HA.out.cell 3; have a4 := HA.out.cell 4; have a5 := HA.out.cell 5; have a6 := HA.out.cell 6
      have b0 := HB.out.cell 0; have b1 := HB.out.cell 1; have b2 := HB.out.cell 2; have b3 := HB.out.cell 3; have b4 := HB.out.cell 4; have b5 := HB.out.cell 5; have b6 := HB.out.cell 6
      clear hlt
      have HKK := Lib.hid (show k = 2 ∨ k = 3 ∨ k = 6 from hkk)
      have hkq : ∀ m : Nat, ∀ b : Bool, decide (k ≠ m) = b → (((k : Int) != (m : Int)) = b) := by
        intro m b hb
        rw [← hb]
        by_cases h : k = m
        · rw [decide_eq_false (fun hn => hn h), h]; simp
        · rw [decide_eq_true h]; exact bne_iff_ne.2 (by omega)
      have hways : (((k : Int) != 2) = false ∧ ((k : Int) != 3) = true ∧ ((k : Int) != 6) = true) ∨ (((k : Int) != 2) = true ∧ ((k : Int) != 3) = false ∧ ((k : Int) != 6) = true) ∨ (((k : Int) != 2) = true ∧ ((k : Int) != 3) = true ∧ ((k : Int) != 6) = false) := by
        have := hkq 2
        have h3 := hkq 3
        have h6 := hkq 6
        rcases HKK.out with rfl | rfl | rfl
        · exact .inl ⟨this _ rfl, h3 _ rfl, h6 _ rfl⟩
        · exact .inr (.inl ⟨this _ rfl, h3 _ rfl, h6 _ rfl⟩)
        · exact .inr (.inr ⟨this _ rfl, h3 _ rfl, h6 _ rfl⟩)
      clear hkq
      have hm' : k' = 1 := hm
      have m1 : ((k' : Int) != 1) = false := by rw [show (k' : Int) = 1 by omega]; rfl
      rw [hy] at WM
      clear hm' hm hkk hy
      rcases hways with ⟨k2, k3, k6⟩ | ⟨k2, k3, k6⟩ | ⟨k2, k3, k6⟩
      all_goals
        go_wp2_with (first
          | (go_at_call 15; (with_reducible refine (WM _ HK.out).mono ?_); rintro e w7 ⟨rfl, hk7⟩; have HK := Lib.hid (Kept.trans HK.out hk7 (fun _ _ h => h)); have HA := Lib.hid (hk7.box HA.out (fun h => h)); have a0 := HA.out.cell 0; have a1 := HA.out.cell 1; have a2 := HA.out.cell 2; have a3 := HA.out.cell 3; have a4 := HA.out.cell 4; have a5 := HA.out.cell 5; have a6 := HA.out.cell 6; have HB := Lib.hid (hk7.box HB.out (fun h => h)); have b0 := HB.out.cell 0; have b1 := HB.out.cell 1; have b2 := HB.out.cell 2; have b3 := HB.out.cell 3; have b4 := HB.out.cell 4; have b5 := HB.out.cell 5; have b6 := HB.out.cell 6; clear hk7)
          | fail)
        go_ret
        exact ⟨rfl, HK.out⟩
set_option maxRecDepth 100000 in
set_option maxHeartbeats 8000000 in
theorem parts_main (w : World) (hAw : AwakeK8 w) (hWh : WholeK8 w) (x y : R) (v v' : Value) (hr : RichS w x v) (hr' : RichS w y v') (hf : fitsX x) (hf' : fitsX y) (g1 : (muchX x 0).2 = false) (g2 : (muchX y 0).2 = false) (hx : whole x = true) (hkk : x.kind = 2 ∨ x.kind = 3 ∨ x.kind = 6) (hm : y.kind = 1) (hy : whole y = true) :
    Calls Tryz.prog 6 #[v, v'] w fun e w' => e = .returned (.bool true) ∧ Kept (fun _ => False) w w' := by
  have AC := fun W (hk : Kept (fun _ => False) w W) => hAw W hk
  have L1 := fun W (hk : Kept (fun _ => False) w W) => large8_walk x v W (RichS.kept hk x v hr) hf
  have L2 := fun W (hk : Kept (fun _ => False) w W) => large8_walk y v' W (RichS.kept hk y v' hr') hf'
  rw [g1] at L1
  rw [g2] at L2
  obtain ⟨s1, c1⟩ := large_no g1
  obtain ⟨s2, c2⟩ := large_no g2
  have WX := fun W (hk : Kept (fun _ => False) w W) => hWh x v W (RichS.kept hk x v hr) s1 c1 hk
  rw [hx] at WX
  have WM := fun W (hk : Kept (fun _ => False) w W) => hWh y v' W (RichS.kept hk y v' hr') s2 c2 hk
  have HWH := Lib.hid hWh
  have HRX := Lib.hid hr
  have HX := Lib.hid hx
  have HS1 := Lib.hid s1
  have HC1 := Lib.hid c1
  clear hWh hAw g1 g2 s1 s2 c1 c2 hx
  obtain ⟨k, d, l⟩ := x
  obtain ⟨k', d', l'⟩ := y
  rw [RichS] at hr hr'
  obtain ⟨ao, cp, rfl, hkb, hdb, hAr⟩ := hr
  obtain ⟨ao', cp', rfl, hkb', hdb', hBr⟩ := hr'
  have HA := Lib.hid ((Box.made w 28 (richA k d (.slice ao l.length cp))).after_alloc (.cells (richA k' d' (.slice ao' l'.length cp')) 28))
  have HB := Lib.hid (show Box ((w.alloc (.cells (richA k d (.slice ao l.length cp)) 28)).alloc (.cells (richA k' d' (.slice ao' l'.length cp')) 28)) (w.heap.size + 1) 28 (richA k' d' (.slice ao' l'.length cp')) from by
    have h := Box.made (w.alloc (.cells (richA k d (.slice ao l.length cp)) 28)) 28 (richA k' d' (.slice ao' l'.length cp'))
    rw [World.size_alloc] at h
    exact h)
  have HK := Lib.hid (((Kept.refl (fun _ => False) w).alloc (.cells (richA k d (.slice ao l.length cp)) 28)).alloc (.cells (richA k' d' (.slice ao' l'.length cp')) 28))
  have HAR := Lib.hid hAr
  have HBR := Lib.hid hBr
  have HDB := Lib.hid (And.intro hkb hdb)
  have HDB' := Lib.hid (And.intro hkb' hdb')
  have hl100 : l.length ≤ 100 := by
    have h := HS1.out
    rw [smallX] at h
    exact h.2.2.1
  clear hAr hBr hdb hdb' hkb hf hf'
  go_enter Tryz.func6, Tryz.ntmps6
  go_wp2_with (first
    | (go_at_call 7; (with_reducible refine (L1 _ HK.out).mono ?_); rintro e w3 ⟨rfl, hk3⟩; have HK := Lib.hid (Kept.trans HK.out hk3 (fun _ _ h => h)); have HA := Lib.hid (hk3.box HA.out (fun h => h)); have a0 := HA.out.cell 0; have a1 := HA.out.cell 1; have a2 := HA.out.cell 2; have a3 := HA.out.cell 3; have a4 := HA.out.cell 4; have a5 := HA.out.cell 5; have a6 := HA.out.cell 6; have HB := Lib.hid (hk3.box HB.out (fun h => h)); have b0 := HB.out.cell 0; have b1 := HB.out.cell 1; have b2 := HB.out.cell 2; have b3 := HB.out.cell 3; have b4 := HB.out.cell 4; have b5 := HB.out.cell 5; have b6 := HB.out.cell 6; clear hk3)
    | (go_at_call 7; (with_reducible refine (L2 _ HK.out).mono ?_); rintro e w4 ⟨rfl, hk4⟩; have HK := Lib.hid (Kept.trans HK.out hk4 (fun _ _ h => h)); have HA := Lib.hid (hk4.box HA.out (fun h => h)); have a0 := HA.out.cell 0; have a1 := HA.out.cell 1; have a2 := HA.out.cell 2; have a3 := HA.out.cell 3; have a4 := HA.out.cell 4; have a5 := HA.out.cell 5; have a6 := HA.out.cell 6; have HB := Lib.hid (hk4.box HB.out (fun h => h)); have b0 := HB.out.cell 0; have b1 := HB.out.cell 1; have b2 := HB.out.cell 2; have b3 := HB.out.cell 3; have b4 := HB.out.cell 4; have b5 := HB.out.cell 5; have b6 := HB.out.cell 6; clear hk4)
    | (go_at_call 8; (with_reducible refine (AC _ HK.out).mono ?_); rintro e w5 ⟨rfl, hk5⟩; have HK := Lib.hid (Kept.trans HK.out hk5 (fun _ _ h => h)); have HA := Lib.hid (hk5.box HA.out (fun h => h)); have a0 := HA.out.cell 0; have a1 := HA.out.cell 1; have a2 := HA.out.cell 2; have a3 := HA.out.cell 3; have a4 := HA.out.cell 4; have a5 := HA.out.cell 5; have a6 := HA.out.cell 6; have HB := Lib.hid (hk5.box HB.out (fun h => h)); have b0 := HB.out.cell 0; have b1 := HB.out.cell 1; have b2 := HB.out.cell 2; have b3 := HB.out.cell 3; have b4 := HB.out.cell 4; have b5 := HB.out.cell 5; have b6 := HB.out.cell 6; clear hk5)
    | (go_at_call 15; (with_reducible refine (WX _ HK.out).mono ?_); rintro e w6 ⟨rfl, hk6⟩; have HK := Lib.hid (Kept.trans HK.out hk6 (fun _ _ h => h)); have HA := Lib.hid (hk6.box HA.out (fun h => h)); have a0 := HA.out.cell 0; have a1 := HA.out.cell 1; have a2 := HA.out.cell 2; have a3 := HA.out.cell 3; have a4 := HA.out.cell 4; have a5 := HA.out.cell 5; have a6 := HA.out.cell 6; have HB := Lib.hid (hk6.box HB.out (fun h => h)); have b0 := HB.out.cell 0; have b1 := HB.out.cell 1; have b2 := HB.out.cell 2; have b3 := HB.out.cell 3; have b4 := HB.out.cell 4; have b5 := HB.out.cell 5; have b6 := HB.out.cell 6; clear hk6)
    | fail)
  clear L1 L2 AC WX
  clear a0 a1 a2 a3 a4 a5 a6 b0 b1 b2 b3 b4 b5 b6
  go_loopw [5] (fun v5 wr => ∃ i : Nat, v5 = .int .i64 (i : Int) ∧ i ≤ l.length ∧ Hid (Box wr w.heap.size 28 (richA k d (.slice ao l.length cp))) ∧ Hid (Box wr (w.heap.size + 1) 28 (richA k' d' (.slice ao' l'.length cp'))) ∧ Hid (Kept (fun _ => False) w wr)) (fun v5 _ => l.length - (intOf v5).toNat)
  case atStart => exact ⟨0, rfl, Nat.zero_le _, HA, HB, HK⟩
  case round =>
    repeat clear HA
    repeat clear HB
    repeat clear HK
    obtain ⟨i, rfl, hi, HA, HB, HK⟩ := hrel
    rename World => wr
    by_cases hlt : i < l.length
    · obtain ⟨x, hx⟩ : ∃ x, l[i]? = some x := ⟨_, List.getElem?_eq_getElem hlt⟩
      obtain ⟨b, off, ao1, cp1, rfl, hb, hrx, h0, h1, h2, h3, h4, h5, h6⟩ := HAR.out.part hx
      have hxm := List.mem_of_getElem? hx
      have hwx := whole_args HX.out x hxm
      have hsx : smallX x := by
        have h := HS1.out
        rw [smallX] at h
        exact smallL_mem h.2.2.2 hxm
      have hcx : count x ≤ 2000 := by
        have h := (count_mem hxm).1
        have h2 := HC1.out
        rw [count] at h2
        omega
      have WC := HWH.out x _ wr (RichS.kept HK.out x _ hrx) hsx hcx HK.out
      rw [hwx] at WC
      have d0 := (HK.out.cell (p := ⟨b, off + i * 7, none⟩) hb (fun h => h)).trans h0
      have d1 := (HK.out.cell (p := ⟨b, off + i * 7 + 1, none⟩) hb (fun h => h)).trans h1
      have d2 := (HK.out.cell (p := ⟨b, off + i * 7 + 2, none⟩) hb (fun h => h)).trans h2
      have d3 := (HK.out.cell (p := ⟨b, off + i * 7 + 3, none⟩) hb (fun h => h)).trans h3
      have d4 := (HK.out.cell (p := ⟨b, off + i * 7 + 4, none⟩) hb (fun h => h)).trans h4
      have d5 := (HK.out.cell (p := ⟨b, off + i * 7 + 5, none⟩) hb (fun h => h)).trans h5
      have d6 := (HK.out.cell (p := ⟨b, off + i * 7 + 6, none⟩) hb (fun h => h)).trans h6
      have hi0 : (0 : Int) ≤ (i : Int) := by omega
      have hiI : (i : Int) < (l.length : Int) := by omega
      have a6 := HA.out.cell 6
      obtain ⟨kx, dx, lx⟩ := x
      clear hx hrx h0 h1 h2 h3 h4 h5 h6 hxm hwx hsx hcx
      go_wp2_with (first
        | (go_at_call 15; refine WC.mono ?_; rintro e w5 ⟨rfl, hk5⟩; have HA := Lib.hid (hk5.box HA.out (fun h => h)); have HB := Lib.hid (hk5.box HB.out (fun h => h)); have HK := Lib.hid (HK.out.trans hk5 (fun _ _ h => h)); clear hk5)
        | fail)
      go_roundw
      case rel => exact ⟨i + 1, by go_num, by omega, HA, HB, HK⟩
      case measure => simp [intOf]; omega
    · obtain rfl : i = l.length := by omega
      have hge : ¬ (l.length : Int) < (l.length : Int) := by omega
      have a0 := HA.out.cell 0; have a1 := HA.out.cell 1; have a2 := HA.out.cell 2; have a3 := HA.out.cell 3; have a4 := HA.out.cell 4; have a5 := HA.out.cell 5; have a6 := HA.out.cell 6
      have b0 := HB.out.cell 0; have b1 := HB.out.cell 1; have b2 := HB.out.cell 2; have b3 := HB.out.cell 3; have b4 := HB.out.cell 4; have b5 := HB.out.cell 5; have b6 := HB.out.cell 6
      clear hlt
      have HKK := Lib.hid (show k = 2 ∨ k = 3 ∨ k = 6 from hkk)
      have hkq : ∀ m : Nat, ∀ b : Bool, decide (k ≠ m) = b → (((k : Int) != (m : Int)) = b) := by
        intro m b hb
        rw [← hb]
        by_cases h : k = m
        · rw [decide_eq_false (fun hn => hn h), h]; simp
        · rw [decide_eq_true h]; exact bne_iff_ne.2 (by omega)
      have hways : (((k : Int) != 2) = false ∧ ((k : Int) != 3) = true ∧ ((k : Int) != 6) = true) ∨ (((k : Int) != 2) = true ∧ ((k : Int) != 3) = false ∧ ((k : Int) != 6) = true) ∨ (((k : Int) != 2) = true ∧ ((k : Int) != 3) = true ∧ ((k : Int) != 6) = false) := by
        have := hkq 2
        have h3 := hkq 3
        have h6 := hkq 6
        rcases HKK.out with rfl | rfl | rfl
        · exact .inl ⟨this _ rfl, h3 _ rfl, h6 _ rfl⟩
        · exact .inr (.inl ⟨this _ rfl, h3 _ rfl, h6 _ rfl⟩)
        · exact .inr (.inr ⟨this _ rfl, h3 _ rfl, h6 _ rfl⟩)
      clear hkq
      have hm' : k' = 1 := hm
      have m1 : ((k' : Int) != 1) = false := by rw [show (k' : Int) = 1 by omega]; rfl
      have HY := Lib.hid hy
      rw [hy] at WM
      have hl2 : 2 ≤ l.length := by
        have h1 := (whole_iff.1 HX.out).1
        have h2 := ((part_other (by have := HKK.out; omega)).1 h1).1
        exact (okN_kind h2).2.2
      have HM1 := Lib.hid hm'
      have HIX := Lib.hid (info_parts info_rich8)
      obtain ⟨i0, hi0', hz0, hz1, hz2⟩ := HIX.out
      clear hm' hm hkk hy
      rcases hways with ⟨k2, k3, k6⟩ | ⟨k2, k3, k6⟩ | ⟨k2, k3, k6⟩
      all_goals
        go_wp2_with (first
          | (go_at_call 15; (with_reducible refine (WM _ HK.out).mono ?_); rintro e w7 ⟨rfl, hk7⟩; have HK := Lib.hid (Kept.trans HK.out hk7 (fun _ _ h => h)); have HA := Lib.hid (hk7.box HA.out (fun h => h)); have a0 := HA.out.cell 0; have a1 := HA.out.cell 1; have a2 := HA.out.cell 2; have a3 := HA.out.cell 3; have a4 := HA.out.cell 4; have a5 := HA.out.cell 5; have a6 := HA.out.cell 6; have HB := Lib.hid (hk7.box HB.out (fun h => h)); have b0 := HB.out.cell 0; have b1 := HB.out.cell 1; have b2 := HB.out.cell 2; have b3 := HB.out.cell 3; have b4 := HB.out.cell 4; have b5 := HB.out.cell 5; have b6 := HB.out.cell 6; clear hk7)
          | fail)
        have hw7b := HB.out.lt
        have CC := copy8_walk (.mk k d l) (.agg (richA k d (.slice ao l.length cp))) _ (RichS.kept HK.out _ _ HRX.out) HC1.out
        refine CC.mono ?_
        rintro e w8 ⟨⟨v8, rfl, hv8, vt, ps, hvt, hps, hown, hdone⟩, hk8⟩
        simp only [R.kind, R.dep, R.args] at hvt hps hown
        obtain ⟨a8, c8, e8⟩ := own_form hown
        subst e8
        subst hvt
        have hs78 := hk8.size
        have HK8 := Lib.hid (HK.out.trans hk8 (fun _ _ h => h))
        have HA8 := Lib.hid (hk8.box HA.out (fun h => h))
        have HB8 := Lib.hid (hk8.box HB.out (fun h => h))
        have HO8 := Lib.hid hown
        have HD8 := Lib.hid hdone
        have HPS := Lib.hid hps
        have hBw := HB8.out.lt
        have hs83 : w7.heap.size + 3 < w8.heap.size := by
          obtain ⟨g0, cap0, _, hgb0, hgl0⟩ := HO8.out.form (by omega)
          omega
        have e0 := fun ob => (HB8.out.after_alloc ob).cell 0; have e1 := fun ob => (HB8.out.after_alloc ob).cell 1; have e2 := fun ob => (HB8.out.after_alloc ob).cell 2; have e3 := fun ob => (HB8.out.after_alloc ob).cell 3; have e4 := fun ob => (HB8.out.after_alloc ob).cell 4; have e5 := fun ob => (HB8.out.after_alloc ob).cell 5; have e6 := fun ob => (HB8.out.after_alloc ob).cell 6
        clear hv8 hown hdone hps hk8 CC WM k2 k3 k6 m1 hge
        clear a0 a1 a2 a3 a4 a5 a6 b0 b1 b2 b3 b4 b5 b6
        go_wp2_with (first
          | (at_builtin; (refine wpList_append_own_at _ rfl _ _ 26 rfl (w7.heap.size + 3) 28 i0 _ 7 96 Tryz.underlying26 hi0' hz0 hz1 hz2 rfl (by decide) (.slice a8 l.length c8) _ _ rfl ((HO8.out.alloc _).alloc _) ⟨w8.heap.size + 1, 0, none⟩ 1 1 (arrP (.mk k' d' l', ao', cp')).toList rfl rfl (one_rich8g _ _ _ _ (by simp)) (by intro u hu; simp at hu; rcases hu with h | h | h | h | h | h | h <;> (rw [h]; rfl)) (by unfold maxLen; omega) (by omega) (by simp; omega) ?_; intro v9 w9 hown9 hgrow9 _ hblk9; obtain ⟨a9, c9, e9⟩ := own_form hown9; subst e9; have HO9 := Lib.hid hown9; have HGW := Lib.hid hgrow9; have HBK := Lib.hid hblk9; have HG9 := Lib.hid (box_kept_grown ((Box.made w8 28 (richA k d (.slice a8 l.length c8))).after_alloc _) hgrow9 (fun h => by have := (HO8.out.lt _ h).2; omega)); have f69 := HG9.out.free 6; have o69 := HG9.out.cell 6; clear hown9 hgrow9 hblk9))
          | fail)
        obtain ⟨W9, hW9⟩ : ∃ W9, W9 = w9.setCell ⟨w8.heap.size, 6, none⟩ (.slice a9 (l.length + 1) c9) := ⟨_, rfl⟩
        have hne9 : ∀ j, (Value.slice a9 (l.length + 1) c9).ownBlock = some j → j ≠ w8.heap.size := fun j hj => by
          rcases HBK.out with h | h
          · rw [h] at hj
            have := (HO8.out.lt j hj).2
            omega
          · rw [h] at hj
            injection hj with hj
            simp at hj
            omega
        have KS := Kept.setCell (S := fun b => b = w8.heap.size) (Kept.refl _ w9) (p := ⟨w8.heap.size, 6, none⟩) (.inl rfl) (.slice a9 (l.length + 1) c9)
        have ho := KS.owns HO9.out (fun j hj h => hne9 j hj h)
        rw [← hW9] at ho KS
        have hcp : cellsP ps ++ (arrP ((.mk k' d' l', ao', cp') : Pc)).toList = cellsP (ps ++ [((.mk k' d' l', ao', cp') : Pc)]) := by rw [cellsP_app]; simp only [cellsP, List.append_nil]
        rw [hcp] at ho
        have KW : Kept (SfD (.slice a8 l.length c8) w8.heap.size w8.heap.size) w8 W9 := ((((Kept.refl _ w8).alloc _).alloc _).grown HGW.out (fun i hi => .inl (.inl hi))).trans KS (fun i _ h => .inr (.inl h))
        have HGX := Lib.hid (show Box W9 w8.heap.size 28 (richA k d (.slice a9 (l.length + 1) c9)) from by rw [hW9]; exact HG9.out.stored 6 _)
        have HBS := HBK.out
        obtain ⟨g, cap, hv, hgb, hgl⟩ := ho.form (by omega)
        injection hv with hv1 hv2 hv3
        subst hv1
        subst hv3
        obtain ⟨p0, pt, rfl⟩ : ∃ p0 pt, ps = p0 :: pt := by
          cases ps with
          | nil =>
            have h : [] = l := HPS.out
            rw [← h] at hl2
            simp at hl2
          | cons p0 pt => exact ⟨p0, pt, rfl⟩
        have hpl : (p0 :: pt).length = l.length := by rw [← HPS.out]; simp
        have hd : ∀ j u, (arrP p0).toList[j]? = some u → W9.cell? ⟨g, j, none⟩ = some u := fun j u hj => by
          have h := (own_cell ho (cellsP_at _ 0 p0 (by simp) j u hj)).1
          rw [Nat.zero_mul, Nat.zero_add] at h
          exact h
        have he : ∀ j u, (arrP ((.mk k' d' l', ao', cp') : Pc)).toList[j]? = some u → W9.cell? ⟨g, l.length * 7 + j, none⟩ = some u := fun j u hj => (own_cell ho (cellsP_at _ l.length (.mk k' d' l', ao', cp') (by rw [← hpl]; simp) j u hj)).1
        have d0 := hd 0 _ rfl; have d1 := hd 1 _ rfl; have d2 := hd 2 _ rfl; have d3 := hd 3 _ rfl; have d4 := hd 4 _ rfl; have d5 := hd 5 _ rfl; have d6 := hd 6 _ rfl
        have e0 : W9.cell? ⟨g, l.length * 7, none⟩ = _ := he 0 _ rfl; have e1 := he 1 _ rfl; have e2 := he 2 _ rfl; have e3 := he 3 _ rfl; have e4 := he 4 _ rfl; have e5 := he 5 _ rfl; have e6 := he 6 _ rfl
        have f0 : W9.frozen? ⟨g, 0, none⟩ = false := ho.frozenAt 0; have f1 : W9.frozen? ⟨g, 1, none⟩ = false := ho.frozenAt 1; have f2 : W9.frozen? ⟨g, 2, none⟩ = false := ho.frozenAt 2; have f3 : W9.frozen? ⟨g, 3, none⟩ = false := ho.frozenAt 3; have f4 : W9.frozen? ⟨g, 4, none⟩ = false := ho.frozenAt 4; have f5 : W9.frozen? ⟨g, 5, none⟩ = false := ho.frozenAt 5; have f6 : W9.frozen? ⟨g, 6, none⟩ = false := ho.frozenAt 6
        have t0 := ho.frozenAt (l.length * 7); have t1 := ho.frozenAt (l.length * 7 + 1); have t2 := ho.frozenAt (l.length * 7 + 2); have t3 := ho.frozenAt (l.length * 7 + 3); have t4 := ho.frozenAt (l.length * 7 + 4); have t5 := ho.frozenAt (l.length * 7 + 5); have t6 := ho.frozenAt (l.length * 7 + 6)
        have x6 : W9.cell? ⟨w8.heap.size, 6, none⟩ = some (.slice (some ⟨g, 0, none⟩) (l.length + 1) c9) := HGX.out.cell 6
        have HO := Lib.hid ho
        have HKW := Lib.hid KW
        have HBS2 := Lib.hid HBS
        have hgx : g ≠ w8.heap.size := hne9 g rfl
        have hgx' : w8.heap.size ≠ g := fun h => hgx h.symm
        have hn0 : ((l.length : Int) + 1 - 1) = (l.length : Int) := by omega
        have hw2 : IntKind.i64.wrap ((l.length : Int) + 1 - 1) = (l.length : Int) := by rw [Int.add_sub_cancel]; exact IntWalk.i64_in _ ⟨by omega, by omega⟩
        have hw3 : IntKind.i64.wrap (l.length : Int) = (l.length : Int) := IntWalk.i64_in _ ⟨by omega, by omega⟩
        have hb1 : (l.length : Int) < (l.length : Int) + 1 := by omega
        have hb2 : (0 : Int) < (l.length : Int) + 1 := by omega
        have hb0 : (0 : Int) ≤ (l.length : Int) := by omega
        have HPL := Lib.hid hpl
        have HWE := Lib.hid hW9
        rw [← hW9]
        obtain ⟨⟨k0, dd0, l0⟩, a0, c0⟩ := p0
        simp only [R.kind, R.dep, R.args] at d0 d1 d2 d3 d4 d5 d6 e0 e1 e2 e3 e4 e5 e6
        clear hne9 ho KS hcp KW HBS hpl hd he hW9 o69 f69
        have HPM := Lib.hid (show (((.mk k0 dd0 l0, a0, c0) : Pc) :: pt ++ [((.mk k' d' l', ao', cp') : Pc)])[l.length]? = some (.mk k' d' l', ao', cp') from by rw [← HPL.out]; simp)
        have HPN := Lib.hid (show (((.mk k0 dd0 l0, a0, c0) : Pc) :: pt ++ [((.mk k' d' l', ao', cp') : Pc)]).length = l.length + 1 from by rw [← HPL.out]; simp)
        have HPT := Lib.hid (show pt.length + 1 = l.length from by rw [← HPL.out]; simp)
        refine wp_region_inv (fun j _ v => [.pointer (some ⟨w8.heap.size, 6, none⟩), .slice (some ⟨g, 0, none⟩) (l.length + 1) c9, .pointer (some ⟨w8.heap.size, 6, none⟩), .slice (some ⟨g, 0, none⟩) (l.length + 1) c9, .pointer (some ⟨w8.heap.size, 6, none⟩), .slice (some ⟨g, 0, none⟩) (l.length + 1) c9, .int .i64 ((l.length : Int) + 1), .int .i64 (l.length : Int), .pointer (some ⟨w8.heap.size, 6, none⟩), .slice (some ⟨g, 0, none⟩) (l.length + 1) c9, .pointer (some ⟨w8.heap.size, 6, none⟩), .slice (some ⟨g, 0, none⟩) (l.length + 1) c9, .int .i64 ((l.length : Int) + 1), .int .i64 (l.length : Int), .pointer (some ⟨g, l.length * 7, none⟩), .agg (arrP ((.mk k' d' l', ao', cp') : Pc)), .pointer (some ⟨w8.heap.size, 6, none⟩), .slice (some ⟨g, 0, none⟩) (l.length + 1) c9, .pointer (some ⟨g, 0, none⟩), .agg (arrP ((.mk k0 dd0 l0, a0, c0) : Pc)), .pointer (some ⟨g, 0, none⟩), undef, .pointer (some ⟨g, l.length * 7, none⟩), undef][j]? = some v) (fun _ _ => True) (fun ls w' => Kept (fun b => b = g) W9 w' ∧ w'.ownsRow (w7.heap.size + 3) 28 7 (.slice (some ⟨g, 0, none⟩) (l.length + 1) c9) (l.length + 1) (cellsP (LstS (((.mk k0 dd0 l0, a0, c0) : Pc) :: pt ++ [((.mk k' d' l', ao', cp') : Pc)]) l.length (.mk k0 dd0 l0, a0, c0) (.mk k' d' l', ao', cp') (ls.getD 21 false) (ls.getD 23 false)))) (by kernel_rfl) (by kernel_rfl) ⟨(Kept.refl _ W9).drew, HO.out.drew⟩ (fun _ _ _ _ _ h => h) ⟨OpOK.plain rfl ?_, OpOK.plain rfl ?_, OpOK.plain rfl ?_, OpOK.plain rfl ?_, OpOK.plain rfl ?_, OpOK.plain rfl ?_, OpOK.plain rfl ?_, OpOK.plain rfl ?_, OpOK.plain rfl ?_, OpOK.plain rfl ?_, OpOK.plain rfl ?_, OpOK.plain rfl ?_, OpOK.plain rfl ?_, OpOK.plain rfl ?_, OpOK.plain rfl ?_, OpOK.plain rfl ?_, OpOK.plain rfl ?_, OpOK.plain rfl ?_, OpOK.plain rfl ?_, OpOK.plain rfl ?_, OpOK.plain rfl ?_, OpOK.plain rfl ?_, OpOK.plain rfl ?_, OpOK.plain rfl ?_, trivial⟩ ?_
        · intro ls a wz hC hz hnew hwait hs hd K hK
          have s6 : a.tmps.getD 6 undef = .pointer (some ⟨w8.heap.size, 0, none⟩) := hs 6 _ (by kernel_rfl) rfl
          have s6' : a.tmps[6]?.getD undef = .pointer (some ⟨w8.heap.size, 0, none⟩) := by rw [← Array.getD_eq_getD_getElem?]; exact s6
          clear hs hd
          go_simp
          exact hK _ _ trivial ⟨hC.1, by rw [getD_set_ne false (show (0 : Nat) ≠ 21 by omega), getD_set_ne false (show (0 : Nat) ≠ 23 by omega)]; exact hC.2⟩ (fun _ => rfl)
        · intro ls a wz hC hz hnew hwait hs hd K hK
          have d0 : a.tmps.getD 66 undef = .pointer (some ⟨w8.heap.size, 6, none⟩) := by
            obtain ⟨u, hu, hv⟩ := hd 0 66 (by kernel_rfl) (by kernel_rfl)
            injection hv with hv
            rw [hu, ← hv]
          have d0' : a.tmps[66]?.getD undef = .pointer (some ⟨w8.heap.size, 6, none⟩) := by rw [← Array.getD_eq_getD_getElem?]; exact d0
          have x6z := (hC.1.cell (p := ⟨w8.heap.size, 6, none⟩) (World.block_lt_of_cell? W9 _ x6) hgx').trans x6
          clear hs hd
          go_simp
          exact hK _ _ trivial ⟨hC.1, by rw [getD_set_ne false (show (1 : Nat) ≠ 21 by omega), getD_set_ne false (show (1 : Nat) ≠ 23 by omega)]; exact hC.2⟩ (fun _ => rfl)
        · intro ls a wz hC hz hnew hwait hs hd K hK
          have s6 : a.tmps.getD 6 undef = .pointer (some ⟨w8.heap.size, 0, none⟩) := hs 6 _ (by kernel_rfl) rfl
          have s6' : a.tmps[6]?.getD undef = .pointer (some ⟨w8.heap.size, 0, none⟩) := by rw [← Array.getD_eq_getD_getElem?]; exact s6
          clear hs hd
          go_simp
          exact hK _ _ trivial ⟨hC.1, by rw [getD_set_ne false (show (2 : Nat) ≠ 21 by omega), getD_set_ne false (show (2 : Nat) ≠ 23 by omega)]; exact hC.2⟩ (fun _ => rfl)
        · intro ls a wz hC hz hnew hwait hs hd K hK
          have d2 : a.tmps.getD 68 undef = .pointer (some ⟨w8.heap.size, 6, none⟩) := by
            obtain ⟨u, hu, hv⟩ := hd 2 68 (by kernel_rfl) (by kernel_rfl)
            injection hv with hv
            rw [hu, ← hv]
          have d2' : a.tmps[68]?.getD undef = .pointer (some ⟨w8.heap.size, 6, none⟩) := by rw [← Array.getD_eq_getD_getElem?]; exact d2
          have x6z := (hC.1.cell (p := ⟨w8.heap.size, 6, none⟩) (World.block_lt_of_cell? W9 _ x6) hgx').trans x6
          clear hs hd
          go_simp
          exact hK _ _ trivial ⟨hC.1, by rw [getD_set_ne false (show (3 : Nat) ≠ 21 by omega), getD_set_ne false (show (3 : Nat) ≠ 23 by omega)]; exact hC.2⟩ (fun _ => rfl)
        · intro ls a wz hC hz hnew hwait hs hd K hK
          have s6 : a.tmps.getD 6 undef = .pointer (some ⟨w8.heap.size, 0, none⟩) := hs 6 _ (by kernel_rfl) rfl
          have s6' : a.tmps[6]?.getD undef = .pointer (some ⟨w8.heap.size, 0, none⟩) := by rw [← Array.getD_eq_getD_getElem?]; exact s6
          clear hs hd
          go_simp
          exact hK _ _ trivial ⟨hC.1, by rw [getD_set_ne false (show (4 : Nat) ≠ 21 by omega), getD_set_ne false (show (4 : Nat) ≠ 23 by omega)]; exact hC.2⟩ (fun _ => rfl)
        · intro ls a wz hC hz hnew hwait hs hd K hK
          have d4 : a.tmps.getD 70 undef = .pointer (some ⟨w8.heap.size, 6, none⟩) := by
            obtain ⟨u, hu, hv⟩ := hd 4 70 (by kernel_rfl) (by kernel_rfl)
            injection hv with hv
            rw [hu, ← hv]
          have d4' : a.tmps[70]?.getD undef = .pointer (some ⟨w8.heap.size, 6, none⟩) := by rw [← Array.getD_eq_getD_getElem?]; exact d4
          have x6z := (hC.1.cell (p := ⟨w8.heap.size, 6, none⟩) (World.block_lt_of_cell? W9 _ x6) hgx').trans x6
          clear hs hd
          go_simp
          exact hK _ _ trivial ⟨hC.1, by rw [getD_set_ne false (show (5 : Nat) ≠ 21 by omega), getD_set_ne false (show (5 : Nat) ≠ 23 by omega)]; exact hC.2⟩ (fun _ => rfl)
        · intro ls a wz hC hz hnew hwait hs hd K hK
          have d5 : a.tmps.getD 71 undef = .slice (some ⟨g, 0, none⟩) (l.length + 1) c9 := by
            obtain ⟨u, hu, hv⟩ := hd 5 71 (by kernel_rfl) (by kernel_rfl)
            injection hv with hv
            rw [hu, ← hv]
          have d5' : a.tmps[71]?.getD undef = .slice (some ⟨g, 0, none⟩) (l.length + 1) c9 := by rw [← Array.getD_eq_getD_getElem?]; exact d5
          clear hs hd
          go_simp
          exact hK _ _ trivial ⟨hC.1, by rw [getD_set_ne false (show (6 : Nat) ≠ 21 by omega), getD_set_ne false (show (6 : Nat) ≠ 23 by omega)]; exact hC.2⟩ (fun _ => rfl)
        · intro ls a wz hC hz hnew hwait hs hd K hK
          have d6 : a.tmps.getD 72 undef = .int .i64 ((l.length : Int) + 1) := by
            obtain ⟨u, hu, hv⟩ := hd 6 72 (by kernel_rfl) (by kernel_rfl)
            injection hv with hv
            rw [hu, ← hv]
          have d6' : a.tmps[72]?.getD undef = .int .i64 ((l.length : Int) + 1) := by rw [← Array.getD_eq_getD_getElem?]; exact d6
          clear hs hd
          go_simp
          exact hK _ _ trivial ⟨hC.1, by rw [getD_set_ne false (show (7 : Nat) ≠ 21 by omega), getD_set_ne false (show (7 : Nat) ≠ 23 by omega)]; exact hC.2⟩ (fun _ => rfl)
        · intro ls a wz hC hz hnew hwait hs hd K hK
          have s6 : a.tmps.getD 6 undef = .pointer (some ⟨w8.heap.size, 0, none⟩) := hs 6 _ (by kernel_rfl) rfl
          have s6' : a.tmps[6]?.getD undef = .pointer (some ⟨w8.heap.size, 0, none⟩) := by rw [← Array.getD_eq_getD_getElem?]; exact s6
          clear hs hd
          go_simp
          exact hK _ _ trivial ⟨hC.1, by rw [getD_set_ne false (show (8 : Nat) ≠ 21 by omega), getD_set_ne false (show (8 : Nat) ≠ 23 by omega)]; exact hC.2⟩ (fun _ => rfl)
        · intro ls a wz hC hz hnew hwait hs hd K hK
          have d8 : a.tmps.getD 74 undef = .pointer (some ⟨w8.heap.size, 6, none⟩) := by
            obtain ⟨u, hu, hv⟩ := hd 8 74 (by kernel_rfl) (by kernel_rfl)
            injection hv with hv
            rw [hu, ← hv]
          have d8' : a.tmps[74]?.getD undef = .pointer (some ⟨w8.heap.size, 6, none⟩) := by rw [← Array.getD_eq_getD_getElem?]; exact d8
          have x6z := (hC.1.cell (p := ⟨w8.heap.size, 6, none⟩) (World.block_lt_of_cell? W9 _ x6) hgx').trans x6
          clear hs hd
          go_simp
          exact hK _ _ trivial ⟨hC.1, by rw [getD_set_ne false (show (9 : Nat) ≠ 21 by omega), getD_set_ne false (show (9 : Nat) ≠ 23 by omega)]; exact hC.2⟩ (fun _ => rfl)
        · intro ls a wz hC hz hnew hwait hs hd K hK
          have s6 : a.tmps.getD 6 undef = .pointer (some ⟨w8.heap.size, 0, none⟩) := hs 6 _ (by kernel_rfl) rfl
          have s6' : a.tmps[6]?.getD undef = .pointer (some ⟨w8.heap.size, 0, none⟩) := by rw [← Array.getD_eq_getD_getElem?]; exact s6
          clear hs hd
          go_simp
          exact hK _ _ trivial ⟨hC.1, by rw [getD_set_ne false (show (10 : Nat) ≠ 21 by omega), getD_set_ne false (show (10 : Nat) ≠ 23 by omega)]; exact hC.2⟩ (fun _ => rfl)
        · intro ls a wz hC hz hnew hwait hs hd K hK
          have d10 : a.tmps.getD 76 undef = .pointer (some ⟨w8.heap.size, 6, none⟩) := by
            obtain ⟨u, hu, hv⟩ := hd 10 76 (by kernel_rfl) (by kernel_rfl)
            injection hv with hv
            rw [hu, ← hv]
          have d10' : a.tmps[76]?.getD undef = .pointer (some ⟨w8.heap.size, 6, none⟩) := by rw [← Array.getD_eq_getD_getElem?]; exact d10
          have x6z := (hC.1.cell (p := ⟨w8.heap.size, 6, none⟩) (World.block_lt_of_cell? W9 _ x6) hgx').trans x6
          clear hs hd
          go_simp
          exact hK _ _ trivial ⟨hC.1, by rw [getD_set_ne false (show (11 : Nat) ≠ 21 by omega), getD_set_ne false (show (11 : Nat) ≠ 23 by omega)]; exact hC.2⟩ (fun _ => rfl)
        · intro ls a wz hC hz hnew hwait hs hd K hK
          have d11 : a.tmps.getD 77 undef = .slice (some ⟨g, 0, none⟩) (l.length + 1) c9 := by
            obtain ⟨u, hu, hv⟩ := hd 11 77 (by kernel_rfl) (by kernel_rfl)
            injection hv with hv
            rw [hu, ← hv]
          have d11' : a.tmps[77]?.getD undef = .slice (some ⟨g, 0, none⟩) (l.length + 1) c9 := by rw [← Array.getD_eq_getD_getElem?]; exact d11
          clear hs hd
          go_simp
          exact hK _ _ trivial ⟨hC.1, by rw [getD_set_ne false (show (12 : Nat) ≠ 21 by omega), getD_set_ne false (show (12 : Nat) ≠ 23 by omega)]; exact hC.2⟩ (fun _ => rfl)
        · intro ls a wz hC hz hnew hwait hs hd K hK
          have d12 : a.tmps.getD 78 undef = .int .i64 ((l.length : Int) + 1) := by
            obtain ⟨u, hu, hv⟩ := hd 12 78 (by kernel_rfl) (by kernel_rfl)
            injection hv with hv
            rw [hu, ← hv]
          have d12' : a.tmps[78]?.getD undef = .int .i64 ((l.length : Int) + 1) := by rw [← Array.getD_eq_getD_getElem?]; exact d12
          clear hs hd
          go_simp
          exact hK _ _ trivial ⟨hC.1, by rw [getD_set_ne false (show (13 : Nat) ≠ 21 by omega), getD_set_ne false (show (13 : Nat) ≠ 23 by omega)]; exact hC.2⟩ (fun _ => rfl)
        · intro ls a wz hC hz hnew hwait hs hd K hK
          have d9 : a.tmps.getD 75 undef = .slice (some ⟨g, 0, none⟩) (l.length + 1) c9 := by
            obtain ⟨u, hu, hv⟩ := hd 9 75 (by kernel_rfl) (by kernel_rfl)
            injection hv with hv
            rw [hu, ← hv]
          have d9' : a.tmps[75]?.getD undef = .slice (some ⟨g, 0, none⟩) (l.length + 1) c9 := by rw [← Array.getD_eq_getD_getElem?]; exact d9
          have d13 : a.tmps.getD 79 undef = .int .i64 (l.length : Int) := by
            obtain ⟨u, hu, hv⟩ := hd 13 79 (by kernel_rfl) (by kernel_rfl)
            injection hv with hv
            rw [hu, ← hv]
          have d13' : a.tmps[79]?.getD undef = .int .i64 (l.length : Int) := by rw [← Array.getD_eq_getD_getElem?]; exact d13
          clear hs hd
          go_simp
          exact hK _ _ trivial ⟨hC.1, by rw [getD_set_ne false (show (14 : Nat) ≠ 21 by omega), getD_set_ne false (show (14 : Nat) ≠ 23 by omega)]; exact hC.2⟩ (fun _ => rfl)
        · intro ls a wz hC hz hnew hwait hs hd K hK
          have d14 : a.tmps.getD 80 undef = .pointer (some ⟨g, l.length * 7, none⟩) := by
            obtain ⟨u, hu, hv⟩ := hd 14 80 (by kernel_rfl) (by kernel_rfl)
            injection hv with hv
            rw [hu, ← hv]
          have d14' : a.tmps[80]?.getD undef = .pointer (some ⟨g, l.length * 7, none⟩) := by rw [← Array.getD_eq_getD_getElem?]; exact d14
          have n21 : ls.getD 21 false = false := hwait 21 _ rfl (by kernel_rfl)
          have n23 : ls.getD 23 false = false := hwait 23 _ rfl (by kernel_rfl)
          have hc := hC.2
          rw [n21, n23] at hc
          have e0 : wz.cell? ⟨g, l.length * 7, none⟩ = _ := (own_cell hc (cellsP_at _ l.length (.mk k' d' l', ao', cp') HPM.out 0 _ rfl)).1
          have e1 : wz.cell? ⟨g, l.length * 7 + 1, none⟩ = _ := (own_cell hc (cellsP_at _ l.length (.mk k' d' l', ao', cp') HPM.out 1 _ rfl)).1
          have e2 : wz.cell? ⟨g, l.length * 7 + 2, none⟩ = _ := (own_cell hc (cellsP_at _ l.length (.mk k' d' l', ao', cp') HPM.out 2 _ rfl)).1
          have e3 : wz.cell? ⟨g, l.length * 7 + 3, none⟩ = _ := (own_cell hc (cellsP_at _ l.length (.mk k' d' l', ao', cp') HPM.out 3 _ rfl)).1
          have e4 : wz.cell? ⟨g, l.length * 7 + 4, none⟩ = _ := (own_cell hc (cellsP_at _ l.length (.mk k' d' l', ao', cp') HPM.out 4 _ rfl)).1
          have e5 : wz.cell? ⟨g, l.length * 7 + 5, none⟩ = _ := (own_cell hc (cellsP_at _ l.length (.mk k' d' l', ao', cp') HPM.out 5 _ rfl)).1
          have e6 : wz.cell? ⟨g, l.length * 7 + 6, none⟩ = _ := (own_cell hc (cellsP_at _ l.length (.mk k' d' l', ao', cp') HPM.out 6 _ rfl)).1
          simp only [R.kind, R.dep, R.args] at e0 e1 e2 e3 e4 e5 e6
          clear hc
          clear hs hd
          go_simp
          exact hK _ _ trivial ⟨hC.1, by rw [getD_set_ne false (show (15 : Nat) ≠ 21 by omega), getD_set_ne false (show (15 : Nat) ≠ 23 by omega)]; exact hC.2⟩ (fun _ => rfl)
        · intro ls a wz hC hz hnew hwait hs hd K hK
          have s6 : a.tmps.getD 6 undef = .pointer (some ⟨w8.heap.size, 0, none⟩) := hs 6 _ (by kernel_rfl) rfl
          have s6' : a.tmps[6]?.getD undef = .pointer (some ⟨w8.heap.size, 0, none⟩) := by rw [← Array.getD_eq_getD_getElem?]; exact s6
          clear hs hd
          go_simp
          exact hK _ _ trivial ⟨hC.1, by rw [getD_set_ne false (show (16 : Nat) ≠ 21 by omega), getD_set_ne false (show (16 : Nat) ≠ 23 by omega)]; exact hC.2⟩ (fun _ => rfl)
        · intro ls a wz hC hz hnew hwait hs hd K hK
          have d16 : a.tmps.getD 82 undef = .pointer (some ⟨w8.heap.size, 6, none⟩) := by
            obtain ⟨u, hu, hv⟩ := hd 16 82 (by kernel_rfl) (by kernel_rfl)
            injection hv with hv
            rw [hu, ← hv]
          have d16' : a.tmps[82]?.getD undef = .pointer (some ⟨w8.heap.size, 6, none⟩) := by rw [← Array.getD_eq_getD_getElem?]; exact d16
          have x6z := (hC.1.cell (p := ⟨w8.heap.size, 6, none⟩) (World.block_lt_of_cell? W9 _ x6) hgx').trans x6
          clear hs hd
          go_simp
          exact hK _ _ trivial ⟨hC.1, by rw [getD_set_ne false (show (17 : Nat) ≠ 21 by omega), getD_set_ne false (show (17 : Nat) ≠ 23 by omega)]; exact hC.2⟩ (fun _ => rfl)
        · intro ls a wz hC hz hnew hwait hs hd K hK
          have d17 : a.tmps.getD 83 undef = .slice (some ⟨g, 0, none⟩) (l.length + 1) c9 := by
            obtain ⟨u, hu, hv⟩ := hd 17 83 (by kernel_rfl) (by kernel_rfl)
            injection hv with hv
            rw [hu, ← hv]
          have d17' : a.tmps[83]?.getD undef = .slice (some ⟨g, 0, none⟩) (l.length + 1) c9 := by rw [← Array.getD_eq_getD_getElem?]; exact d17
          clear hs hd
          go_simp
          exact hK _ _ trivial ⟨hC.1, by rw [getD_set_ne false (show (18 : Nat) ≠ 21 by omega), getD_set_ne false (show (18 : Nat) ≠ 23 by omega)]; exact hC.2⟩ (fun _ => rfl)
        · intro ls a wz hC hz hnew hwait hs hd K hK
          have d18 : a.tmps.getD 84 undef = .pointer (some ⟨g, 0, none⟩) := by
            obtain ⟨u, hu, hv⟩ := hd 18 84 (by kernel_rfl) (by kernel_rfl)
            injection hv with hv
            rw [hu, ← hv]
          have d18' : a.tmps[84]?.getD undef = .pointer (some ⟨g, 0, none⟩) := by rw [← Array.getD_eq_getD_getElem?]; exact d18
          have n21 : ls.getD 21 false = false := hwait 21 _ rfl (by kernel_rfl)
          have n23 : ls.getD 23 false = false := hwait 23 _ rfl (by kernel_rfl)
          have hc := hC.2
          rw [n21, n23] at hc
          have e0 : wz.cell? ⟨g, 0, none⟩ = _ := (own_cell hc (cellsP_at _ 0 (.mk k0 dd0 l0, a0, c0) rfl 0 _ rfl)).1
          have e1 : wz.cell? ⟨g, 1, none⟩ = _ := (own_cell hc (cellsP_at _ 0 (.mk k0 dd0 l0, a0, c0) rfl 1 _ rfl)).1
          have e2 : wz.cell? ⟨g, 2, none⟩ = _ := (own_cell hc (cellsP_at _ 0 (.mk k0 dd0 l0, a0, c0) rfl 2 _ rfl)).1
          have e3 : wz.cell? ⟨g, 3, none⟩ = _ := (own_cell hc (cellsP_at _ 0 (.mk k0 dd0 l0, a0, c0) rfl 3 _ rfl)).1
          have e4 : wz.cell? ⟨g, 4, none⟩ = _ := (own_cell hc (cellsP_at _ 0 (.mk k0 dd0 l0, a0, c0) rfl 4 _ rfl)).1
          have e5 : wz.cell? ⟨g, 5, none⟩ = _ := (own_cell hc (cellsP_at _ 0 (.mk k0 dd0 l0, a0, c0) rfl 5 _ rfl)).1
          have e6 : wz.cell? ⟨g, 6, none⟩ = _ := (own_cell hc (cellsP_at _ 0 (.mk k0 dd0 l0, a0, c0) rfl 6 _ rfl)).1
          simp only [R.kind, R.dep, R.args] at e0 e1 e2 e3 e4 e5 e6
          clear hc
          clear hs hd
          go_simp
          exact hK _ _ trivial ⟨hC.1, by rw [getD_set_ne false (show (19 : Nat) ≠ 21 by omega), getD_set_ne false (show (19 : Nat) ≠ 23 by omega)]; exact hC.2⟩ (fun _ => rfl)
        · intro ls a wz hC hz hnew hwait hs hd K hK
          have d1 : a.tmps.getD 67 undef = .slice (some ⟨g, 0, none⟩) (l.length + 1) c9 := by
            obtain ⟨u, hu, hv⟩ := hd 1 67 (by kernel_rfl) (by kernel_rfl)
            injection hv with hv
            rw [hu, ← hv]
          have d1' : a.tmps[67]?.getD undef = .slice (some ⟨g, 0, none⟩) (l.length + 1) c9 := by rw [← Array.getD_eq_getD_getElem?]; exact d1
          clear hs hd
          go_simp
          exact hK _ _ trivial ⟨hC.1, by rw [getD_set_ne false (show (20 : Nat) ≠ 21 by omega), getD_set_ne false (show (20 : Nat) ≠ 23 by omega)]; exact hC.2⟩ (fun _ => rfl)
        · intro ls a wz hC hz hnew hwait hs hd K hK
          have d20 : a.tmps.getD 86 undef = .pointer (some ⟨g, 0, none⟩) := by
            obtain ⟨u, hu, hv⟩ := hd 20 86 (by kernel_rfl) (by kernel_rfl)
            injection hv with hv
            rw [hu, ← hv]
          have d20' : a.tmps[86]?.getD undef = .pointer (some ⟨g, 0, none⟩) := by rw [← Array.getD_eq_getD_getElem?]; exact d20
          have d15 : a.tmps.getD 81 undef = .agg (arrP ((.mk k' d' l', ao', cp') : Pc)) := by
            obtain ⟨u, hu, hv⟩ := hd 15 81 (by kernel_rfl) (by kernel_rfl)
            injection hv with hv
            rw [hu, ← hv]
          have d15' : a.tmps[81]?.getD undef = .agg (arrP ((.mk k' d' l', ao', cp') : Pc)) := by rw [← Array.getD_eq_getD_getElem?]; exact d15
          have n21 : ls.getD 21 false = false := hnew
          have n23 : ls.getD 23 false = false := hwait 23 _ rfl (by kernel_rfl)
          have f0 : wz.frozen? ⟨g, 0, none⟩ = false := hC.2.frozenAt _
          have f1 : wz.frozen? ⟨g, 1, none⟩ = false := hC.2.frozenAt _
          have f2 : wz.frozen? ⟨g, 2, none⟩ = false := hC.2.frozenAt _
          have f3 : wz.frozen? ⟨g, 3, none⟩ = false := hC.2.frozenAt _
          have f4 : wz.frozen? ⟨g, 4, none⟩ = false := hC.2.frozenAt _
          have f5 : wz.frozen? ⟨g, 5, none⟩ = false := hC.2.frozenAt _
          have f6 : wz.frozen? ⟨g, 6, none⟩ = false := hC.2.frozenAt _
          obtain ⟨q0, c0'⟩ : ∃ u, wz.cell? ⟨g, 0, none⟩ = some u := own_there hC.2 (by rw [cellsP_len, lstS_len, HPN.out]; omega)
          obtain ⟨q1, c1'⟩ : ∃ u, wz.cell? ⟨g, 1, none⟩ = some u := own_there hC.2 (by rw [cellsP_len, lstS_len, HPN.out]; omega)
          obtain ⟨q2, c2'⟩ : ∃ u, wz.cell? ⟨g, 2, none⟩ = some u := own_there hC.2 (by rw [cellsP_len, lstS_len, HPN.out]; omega)
          obtain ⟨q3, c3'⟩ : ∃ u, wz.cell? ⟨g, 3, none⟩ = some u := own_there hC.2 (by rw [cellsP_len, lstS_len, HPN.out]; omega)
          obtain ⟨q4, c4'⟩ : ∃ u, wz.cell? ⟨g, 4, none⟩ = some u := own_there hC.2 (by rw [cellsP_len, lstS_len, HPN.out]; omega)
          obtain ⟨q5, c5'⟩ : ∃ u, wz.cell? ⟨g, 5, none⟩ = some u := own_there hC.2 (by rw [cellsP_len, lstS_len, HPN.out]; omega)
          obtain ⟨q6, c6'⟩ : ∃ u, wz.cell? ⟨g, 6, none⟩ = some u := own_there hC.2 (by rw [cellsP_len, lstS_len, HPN.out]; omega)
          clear hs hd
          go_simp
          refine hK undef _ trivial ⟨kept7 hC.1 rfl 0 _ _ _ _ _ _ _, ?_⟩ (fun h => by cases h)
          rw [getD_set_self hz (by show 21 < 24; omega), getD_set_ne false (show (21 : Nat) ≠ 23 by omega), n23]
          have hc := hC.2
          rw [n21, n23] at hc
          exact store7 hc 0 0 (.mk k' d' l', ao', cp') (by simp [LstS]) rfl
        · intro ls a wz hC hz hnew hwait hs hd K hK
          have d3 : a.tmps.getD 69 undef = .slice (some ⟨g, 0, none⟩) (l.length + 1) c9 := by
            obtain ⟨u, hu, hv⟩ := hd 3 69 (by kernel_rfl) (by kernel_rfl)
            injection hv with hv
            rw [hu, ← hv]
          have d3' : a.tmps[69]?.getD undef = .slice (some ⟨g, 0, none⟩) (l.length + 1) c9 := by rw [← Array.getD_eq_getD_getElem?]; exact d3
          have d7 : a.tmps.getD 73 undef = .int .i64 (l.length : Int) := by
            obtain ⟨u, hu, hv⟩ := hd 7 73 (by kernel_rfl) (by kernel_rfl)
            injection hv with hv
            rw [hu, ← hv]
          have d7' : a.tmps[73]?.getD undef = .int .i64 (l.length : Int) := by rw [← Array.getD_eq_getD_getElem?]; exact d7
          clear hs hd
          go_simp
          exact hK _ _ trivial ⟨hC.1, by rw [getD_set_ne false (show (22 : Nat) ≠ 21 by omega), getD_set_ne false (show (22 : Nat) ≠ 23 by omega)]; exact hC.2⟩ (fun _ => rfl)
        · intro ls a wz hC hz hnew hwait hs hd K hK
          have d22 : a.tmps.getD 87 undef = .pointer (some ⟨g, l.length * 7, none⟩) := by
            obtain ⟨u, hu, hv⟩ := hd 22 87 (by kernel_rfl) (by kernel_rfl)
            injection hv with hv
            rw [hu, ← hv]
          have d22' : a.tmps[87]?.getD undef = .pointer (some ⟨g, l.length * 7, none⟩) := by rw [← Array.getD_eq_getD_getElem?]; exact d22
          have d19 : a.tmps.getD 85 undef = .agg (arrP ((.mk k0 dd0 l0, a0, c0) : Pc)) := by
            obtain ⟨u, hu, hv⟩ := hd 19 85 (by kernel_rfl) (by kernel_rfl)
            injection hv with hv
            rw [hu, ← hv]
          have d19' : a.tmps[85]?.getD undef = .agg (arrP ((.mk k0 dd0 l0, a0, c0) : Pc)) := by rw [← Array.getD_eq_getD_getElem?]; exact d19
          have f0 : wz.frozen? ⟨g, l.length * 7, none⟩ = false := hC.2.frozenAt _
          have f1 : wz.frozen? ⟨g, l.length * 7 + 1, none⟩ = false := hC.2.frozenAt _
          have f2 : wz.frozen? ⟨g, l.length * 7 + 2, none⟩ = false := hC.2.frozenAt _
          have f3 : wz.frozen? ⟨g, l.length * 7 + 3, none⟩ = false := hC.2.frozenAt _
          have f4 : wz.frozen? ⟨g, l.length * 7 + 4, none⟩ = false := hC.2.frozenAt _
          have f5 : wz.frozen? ⟨g, l.length * 7 + 5, none⟩ = false := hC.2.frozenAt _
          have f6 : wz.frozen? ⟨g, l.length * 7 + 6, none⟩ = false := hC.2.frozenAt _
          obtain ⟨q0, c0'⟩ : ∃ u, wz.cell? ⟨g, l.length * 7, none⟩ = some u := own_there hC.2 (by rw [cellsP_len, lstS_len, HPN.out]; omega)
          obtain ⟨q1, c1'⟩ : ∃ u, wz.cell? ⟨g, l.length * 7 + 1, none⟩ = some u := own_there hC.2 (by rw [cellsP_len, lstS_len, HPN.out]; omega)
          obtain ⟨q2, c2'⟩ : ∃ u, wz.cell? ⟨g, l.length * 7 + 2, none⟩ = some u := own_there hC.2 (by rw [cellsP_len, lstS_len, HPN.out]; omega)
          obtain ⟨q3, c3'⟩ : ∃ u, wz.cell? ⟨g, l.length * 7 + 3, none⟩ = some u := own_there hC.2 (by rw [cellsP_len, lstS_len, HPN.out]; omega)
          obtain ⟨q4, c4'⟩ : ∃ u, wz.cell? ⟨g, l.length * 7 + 4, none⟩ = some u := own_there hC.2 (by rw [cellsP_len, lstS_len, HPN.out]; omega)
          obtain ⟨q5, c5'⟩ : ∃ u, wz.cell? ⟨g, l.length * 7 + 5, none⟩ = some u := own_there hC.2 (by rw [cellsP_len, lstS_len, HPN.out]; omega)
          obtain ⟨q6, c6'⟩ : ∃ u, wz.cell? ⟨g, l.length * 7 + 6, none⟩ = some u := own_there hC.2 (by rw [cellsP_len, lstS_len, HPN.out]; omega)
          clear hs hd
          go_simp
          refine hK undef _ trivial ⟨kept7 hC.1 rfl (l.length * 7) _ _ _ _ _ _ _, ?_⟩ (fun h => by cases h)
          rw [getD_set_self hz (by show 23 < 24; omega), getD_set_ne false (show (23 : Nat) ≠ 21 by omega)]
          have hc := hC.2
          rw [hnew] at hc
          exact store7 hc l.length (l.length * 7) (.mk k0 dd0 l0, a0, c0) (by rw [lstS_len, HPN.out]; omega) rfl
        intro ls wz hall hC
        intro v0 h0; injection h0 with h0; subst h0
        intro v1 h1; injection h1 with h1; subst h1
        intro v2 h2; injection h2 with h2; subst h2
        intro v3 h3; injection h3 with h3; subst h3
        intro v4 h4; injection h4 with h4; subst h4
        intro v5 h5; injection h5 with h5; subst h5
        intro v6 h6; injection h6 with h6; subst h6
        intro v7 h7; injection h7 with h7; subst h7
        intro v8 h8; injection h8 with h8; subst h8
        intro v9 h9; injection h9 with h9; subst h9
        intro v10 h10; injection h10 with h10; subst h10
        intro v11 h11; injection h11 with h11; subst h11
        intro v12 h12; injection h12 with h12; subst h12
        intro v13 h13; injection h13 with h13; subst h13
        intro v14 h14; injection h14 with h14; subst h14
        intro v15 h15; injection h15 with h15; subst h15
        intro v16 h16; injection h16 with h16; subst h16
        intro v17 h17; injection h17 with h17; subst h17
        intro v18 h18; injection h18 with h18; subst h18
        intro v19 h19; injection h19 with h19; subst h19
        intro v20 h20; injection h20 with h20; subst h20
        intro v22 h22; injection h22 with h22; subst h22
        simp only [EndsP]
        rw [hall 21 (by show 21 < 24; omega), hall 23 (by show 23 < 24; omega), lstS_end HPT.out] at hC
        clear d0 d1 d2 d3 d4 d5 d6 e0 e1 e2 e3 e4 e5 e6 f0 f1 f2 f3 f4 f5 f6 t0 t1 t2 t3 t4 t5 t6 x6 hn0 hw2 hw3 hb1 hb2
        go_simp
        have HXZ := Lib.hid (hC.1.box HGX.out hgx')
        have HK9 := Lib.hid (show Kept (fun _ => False) w W9 from HK8.out.trans HKW.out (fun j hj h => by
          rcases h with h | h | h
          · have := (HO8.out.lt j h).1; omega
          · omega
          · omega))
        have hgw : w.heap.size + 2 ≤ g := by omega
        have HAZ := Lib.hid (((HKW.out.weaker (T := fun b => SfD (.slice a8 l.length c8) w8.heap.size w8.heap.size b ∨ b = g) (fun _ _ h => .inl h)).trans hC.1 (fun _ _ h => .inr h)).box HA8.out (fun h => by
          rcases h with (h | h | h) | h
          · have := (HO8.out.lt _ h).1; omega
          · omega
          · omega
          · omega))
        have HKZ := Lib.hid (show Kept (fun _ => False) w wz from HK9.out.trans hC.1 (fun j hj h => by have h2 : j = g := h; omega))
        have HWZ0 := HWE.out
        have hk1 := HM1.out
        subst hk1
        have hl0 : l' = [] := (part_atom.1 (whole_iff.1 HY.out).1).2
        subst hl0
        have hlx : l = .mk k0 dd0 l0 :: pt.map Prod.fst := HPS.out.symm
        have hX := HX.out
        rw [hlx] at hX
        have hwt := whole_turned HKK.out hX HY.out
        obtain ⟨hpt1, hpt2⟩ := part_turned HKK.out hX HY.out
        rw [← hlx] at hwt hpt2
        have hc24 := (whole_iff.1 HX.out).2.1
        obtain ⟨hsm, _⟩ := part_small _ hpt1 (by omega)
        have hmap : (((.mk 1 d' [], ao', cp') : Pc) :: (pt ++ [((.mk k0 dd0 l0, a0, c0) : Pc)])).map Prod.fst = .mk 1 d' [] :: (pt.map Prod.fst ++ [.mk k0 dd0 l0]) := by simp
        have hpz : (.mk 1 d' [] :: (pt.map Prod.fst ++ [(.mk k0 dd0 l0 : R)])).length = l.length + 1 := by rw [hlx]; simp
        have hdn : ∀ q ∈ (((.mk 1 d' [], ao', cp') : Pc) :: (pt ++ [((.mk k0 dd0 l0, a0, c0) : Pc)])), Done8 (w7.heap.size + 3) (.slice (some ⟨g, 0, none⟩) (l.length + 1) c9) wz q := by
          have hold : ∀ q ∈ ((.mk k0 dd0 l0, a0, c0) : Pc) :: pt, Done8 (w7.heap.size + 3) (.slice (some ⟨g, 0, none⟩) (l.length + 1) c9) wz q := fun q hq => by
            obtain ⟨wj, bj, h1, h2, h3, h4⟩ := HD8.out q hq
            have hs0 : DoneS (w7.heap.size + 3) (SfD (.slice a8 l.length c8) w8.heap.size w8.heap.size) w8 q := ⟨wj, bj, h1, h2, h3, fun j hj => by
              rcases hj with hj | hj | hj
              · exact h4 j hj
              · exact .inr (by rw [hj]; exact h3.size)
              · exact .inr (by rw [hj]; exact h3.size)⟩
            have hs1 : DoneS (w7.heap.size + 3) (SfD (.slice (some ⟨g, 0, none⟩) (l.length + 1) c9) w8.heap.size w8.heap.size) W9 q := hs0.step HKW.out (fun j hj => by
              rcases hj with hj | hj
              · rcases HBS2.out with h | h
                · exact .inl (.inl (by rw [← h]; exact hj))
                · rw [h] at hj
                  injection hj with hj
                  simp at hj
                  exact .inr (by omega)
              · exact .inl (.inr hj))
            have hs2 := hs1.step (Sf' := SfD (.slice (some ⟨g, 0, none⟩) (l.length + 1) c9) w8.heap.size w8.heap.size) (hC.1.weaker (fun j _ h => .inl (by have h2 : j = g := h; rw [h2]; rfl))) (fun _ h => .inl h)
            exact hs2.done8 (fun j hj => .inl hj)
          intro q hq
          rcases List.mem_cons.1 hq with rfl | hq
          · refine ⟨wz, wz.heap.size, ?_, fun W _ => ?_, Kept.refl _ _, fun j _ => Nat.lt_or_ge j _⟩
            · have h1 := hC.1.size
              have h2 := HKW.out.size
              omega
            · show RichS W (.mk 1 d' []) _
              rw [RichS]
              exact ⟨ao', cp', rfl, by omega, HDB'.out.2, by rw [ArgS]; trivial⟩
          · rcases List.mem_append.1 hq with hq | hq
            · exact hold q (List.mem_cons_of_mem _ hq)
            · exact hold q (by rw [List.mem_singleton.1 hq]; exact List.mem_cons_self)
        have hrn := rich_made (B := w7.heap.size + 3) (w0 := 0) (k := k) (d := d) (l := .mk 1 d' [] :: (pt.map Prod.fst ++ [.mk k0 dd0 l0])) (ps := ((.mk 1 d' [], ao', cp') : Pc) :: (pt ++ [((.mk k0 dd0 l0, a0, c0) : Pc)])) (vt := .slice (some ⟨g, 0, none⟩) (l.length + 1) c9) (wr := wz) (e := 28) (Nat.zero_le _) HDB.out.1 HDB.out.2 hmap (by rw [hpz]; exact hC.2) hdn
        have HWZ := Lib.hid (fun (W : World) (hk : Kept (fun _ => False) wz W) => HWH.out _ _ W (RichS.kept hk _ _ hrn.here) hsm (by omega) (HKZ.out.trans hk (fun _ _ h => h)))
        have HNZ := Lib.hid (fun (W : World) (hk : Kept (fun _ => False) wz W) => nodes8_walk (.mk k d l) (.agg (richA k d (.slice ao l.length cp))) W (RichS.kept (HKZ.out.trans hk (fun _ _ h => h)) _ _ HRX.out) (by omega))
        rw [hwt] at HWZ
        obtain ⟨c, hcc⟩ : ∃ c, c = count (.mk k d l) := ⟨_, rfl⟩
        rw [← hcc] at HWZ HNZ hc24
        clear hcc hwt hpt1 hpt2 hsm hmap hpz hdn hrn hlx hX HWZ0
        by_cases hle : c + 1 ≤ 24
        · rw [decide_eq_true hle] at HWZ
          have hleI : (c : Int) + 1 ≤ 24 := by omega
          clear hle
          go_wp2_with fail
          refine wp_region_inv (fun j _ v => [.agg (richA k d (.slice (some ⟨g, 0, none⟩) (l.length + 1) c9)), .bool true, .agg (richA k d (.slice ao l.length cp)), .int .i64 (c : Int), .int .i64 ((c : Int) + 1), .bool true, .bool true, .bool true][j]? = some v) (fun _ _ => True) (fun _ w' => Kept (fun _ => False) wz w') (by kernel_rfl) (by kernel_rfl) (Kept.refl _ wz).drew (fun _ _ _ _ _ h => h) ⟨OpOK.plain rfl ?_, OpOK.plain rfl ?_, OpOK.plain rfl ?_, OpOK.plain rfl ?_, OpOK.plain rfl ?_, OpOK.plain rfl ?_, OpOK.plain rfl ?_, OpOK.plain rfl ?_, trivial⟩ ?_
          · intro ls a wy hC hz hnew hwait hs hd K hK
            have s6 : a.tmps.getD 6 undef = .pointer (some ⟨w8.heap.size, 0, none⟩) := hs 6 _ (by kernel_rfl) rfl
            have s6' : a.tmps[6]?.getD undef = .pointer (some ⟨w8.heap.size, 0, none⟩) := by rw [← Array.getD_eq_getD_getElem?]; exact s6
            have hb := hC.box HXZ.out (fun h => h)
            have b0 := hb.cell 0
            have b1 := hb.cell 1
            have b2 := hb.cell 2
            have b3 := hb.cell 3
            have b4 := hb.cell 4
            have b5 := hb.cell 5
            have b6 := hb.cell 6
            clear hs hd
            go_simp
            exact hK _ _ trivial hC (fun _ => rfl)
          · intro ls a wy hC hz hnew hwait hs hd K hK
            have d0 : a.tmps.getD 88 undef = .agg (richA k d (.slice (some ⟨g, 0, none⟩) (l.length + 1) c9)) := by
              obtain ⟨u, hu, hv⟩ := hd 0 88 (by kernel_rfl) (by kernel_rfl)
              injection hv with hv
              rw [hu, ← hv]
            have d0' : a.tmps[88]?.getD undef = .agg (richA k d (.slice (some ⟨g, 0, none⟩) (l.length + 1) c9)) := by rw [← Array.getD_eq_getD_getElem?]; exact d0
            clear hs hd
            go_simp
            refine (HWZ.out wy hC).mono ?_
            rintro e wv ⟨rfl, hkv⟩
            exact hK _ _ trivial (hC.trans hkv (fun _ _ h => h)) (fun _ => rfl)
          · intro ls a wy hC hz hnew hwait hs hd K hK
            have s2 : a.tmps.getD 2 undef = .pointer (some ⟨w.heap.size, 0, none⟩) := hs 2 _ (by kernel_rfl) rfl
            have s2' : a.tmps[2]?.getD undef = .pointer (some ⟨w.heap.size, 0, none⟩) := by rw [← Array.getD_eq_getD_getElem?]; exact s2
            have hb := hC.box HAZ.out (fun h => h)
            have b0 := hb.cell 0
            have b1 := hb.cell 1
            have b2 := hb.cell 2
            have b3 := hb.cell 3
            have b4 := hb.cell 4
            have b5 := hb.cell 5
            have b6 := hb.cell 6
            clear hs hd
            go_simp
            exact hK _ _ trivial hC (fun _ => rfl)
          · intro ls a wy hC hz hnew hwait hs hd K hK
            have d2 : a.tmps.getD 90 undef = .agg (richA k d (.slice ao l.length cp)) := by
              obtain ⟨u, hu, hv⟩ := hd 2 90 (by kernel_rfl) (by kernel_rfl)
              injection hv with hv
              rw [hu, ← hv]
            have d2' : a.tmps[90]?.getD undef = .agg (richA k d (.slice ao l.length cp)) := by rw [← Array.getD_eq_getD_getElem?]; exact d2
            clear hs hd
            go_simp
            refine (HNZ.out wy hC).mono ?_
            rintro e wv ⟨rfl, hkv⟩
            exact hK _ _ trivial (hC.trans hkv (fun _ _ h => h)) (fun _ => rfl)
          · intro ls a wy hC hz hnew hwait hs hd K hK
            have hwr : IntKind.i64.wrap ((c : Int) + 1) = (c : Int) + 1 := IntWalk.i64_in _ ⟨by omega, by omega⟩
            have d3 : a.tmps.getD 91 undef = .int .i64 (c : Int) := by
              obtain ⟨u, hu, hv⟩ := hd 3 91 (by kernel_rfl) (by kernel_rfl)
              injection hv with hv
              rw [hu, ← hv]
            have d3' : a.tmps[91]?.getD undef = .int .i64 (c : Int) := by rw [← Array.getD_eq_getD_getElem?]; exact d3
            clear hs hd
            go_simp
            exact hK _ _ trivial hC (fun _ => rfl)
          · intro ls a wy hC hz hnew hwait hs hd K hK
            have hled : decide ((c : Int) + 1 ≤ 24) = true := by simp; omega
            have d4 : a.tmps.getD 92 undef = .int .i64 ((c : Int) + 1) := by
              obtain ⟨u, hu, hv⟩ := hd 4 92 (by kernel_rfl) (by kernel_rfl)
              injection hv with hv
              rw [hu, ← hv]
            have d4' : a.tmps[92]?.getD undef = .int .i64 ((c : Int) + 1) := by rw [← Array.getD_eq_getD_getElem?]; exact d4
            clear hs hd
            go_simp
            exact hK _ _ trivial hC (fun _ => rfl)
          · intro ls a wy hC hz hnew hwait hs hd K hK
            have d1 : a.tmps.getD 89 undef = .bool true := by
              obtain ⟨u, hu, hv⟩ := hd 1 89 (by kernel_rfl) (by kernel_rfl)
              injection hv with hv
              rw [hu, ← hv]
            have d1' : a.tmps[89]?.getD undef = .bool true := by rw [← Array.getD_eq_getD_getElem?]; exact d1
            have d5 : a.tmps.getD 93 undef = .bool true := by
              obtain ⟨u, hu, hv⟩ := hd 5 93 (by kernel_rfl) (by kernel_rfl)
              injection hv with hv
              rw [hu, ← hv]
            have d5' : a.tmps[93]?.getD undef = .bool true := by rw [← Array.getD_eq_getD_getElem?]; exact d5
            clear hs hd
            go_simp
            exact hK _ _ trivial hC (fun _ => rfl)
          · intro ls a wy hC hz hnew hwait hs hd K hK
            have d6 : a.tmps.getD 94 undef = .bool true := by
              obtain ⟨u, hu, hv⟩ := hd 6 94 (by kernel_rfl) (by kernel_rfl)
              injection hv with hv
              rw [hu, ← hv]
            have d6' : a.tmps[94]?.getD undef = .bool true := by rw [← Array.getD_eq_getD_getElem?]; exact d6
            clear hs hd
            go_simp
            exact hK _ _ trivial hC (fun _ => rfl)
          intro ls wy hall hC
          intro v0 h0; injection h0 with h0; subst h0
          intro v1 h1; injection h1 with h1; subst h1
          intro v2 h2; injection h2 with h2; subst h2
          intro v3 h3; injection h3 with h3; subst h3
          intro v4 h4; injection h4 with h4; subst h4
          intro v5 h5; injection h5 with h5; subst h5
          intro v6 h6; injection h6 with h6; subst h6
          intro v7 h7; injection h7 with h7; subst h7
          simp only [EndsP]
          go_simp
          go_wp2_with fail
          go_ret
          exact ⟨rfl, HKZ.out.trans hC (fun _ _ h => h)⟩
        · rw [decide_eq_false hle] at HWZ
          have hleI : ¬ (c : Int) + 1 ≤ 24 := by omega
          clear hle
          go_wp2_with fail
          refine wp_region_inv (fun j _ v => [.agg (richA k d (.slice (some ⟨g, 0, none⟩) (l.length + 1) c9)), .bool false, .agg (richA k d (.slice ao l.length cp)), .int .i64 (c : Int), .int .i64 ((c : Int) + 1), .bool false, .bool true, .bool true][j]? = some v) (fun _ _ => True) (fun _ w' => Kept (fun _ => False) wz w') (by kernel_rfl) (by kernel_rfl) (Kept.refl _ wz).drew (fun _ _ _ _ _ h => h) ⟨OpOK.plain rfl ?_, OpOK.plain rfl ?_, OpOK.plain rfl ?_, OpOK.plain rfl ?_, OpOK.plain rfl ?_, OpOK.plain rfl ?_, OpOK.plain rfl ?_, OpOK.plain rfl ?_, trivial⟩ ?_
          · intro ls a wy hC hz hnew hwait hs hd K hK
            have s6 : a.tmps.getD 6 undef = .pointer (some ⟨w8.heap.size, 0, none⟩) := hs 6 _ (by kernel_rfl) rfl
            have s6' : a.tmps[6]?.getD undef = .pointer (some ⟨w8.heap.size, 0, none⟩) := by rw [← Array.getD_eq_getD_getElem?]; exact s6
            have hb := hC.box HXZ.out (fun h => h)
            have b0 := hb.cell 0
            have b1 := hb.cell 1
            have b2 := hb.cell 2
            have b3 := hb.cell 3
            have b4 := hb.cell 4
            have b5 := hb.cell 5
            have b6 := hb.cell 6
            clear hs hd
            go_simp
            exact hK _ _ trivial hC (fun _ => rfl)
          · intro ls a wy hC hz hnew hwait hs hd K hK
            have d0 : a.tmps.getD 88 undef = .agg (richA k d (.slice (some ⟨g, 0, none⟩) (l.length + 1) c9)) := by
              obtain ⟨u, hu, hv⟩ := hd 0 88 (by kernel_rfl) (by kernel_rfl)
              injection hv with hv
              rw [hu, ← hv]
            have d0' : a.tmps[88]?.getD undef = .agg (richA k d (.slice (some ⟨g, 0, none⟩) (l.length + 1) c9)) := by rw [← Array.getD_eq_getD_getElem?]; exact d0
            clear hs hd
            go_simp
            refine (HWZ.out wy hC).mono ?_
            rintro e wv ⟨rfl, hkv⟩
            exact hK _ _ trivial (hC.trans hkv (fun _ _ h => h)) (fun _ => rfl)
          · intro ls a wy hC hz hnew hwait hs hd K hK
            have s2 : a.tmps.getD 2 undef = .pointer (some ⟨w.heap.size, 0, none⟩) := hs 2 _ (by kernel_rfl) rfl
            have s2' : a.tmps[2]?.getD undef = .pointer (some ⟨w.heap.size, 0, none⟩) := by rw [← Array.getD_eq_getD_getElem?]; exact s2
            have hb := hC.box HAZ.out (fun h => h)
            have b0 := hb.cell 0
            have b1 := hb.cell 1
            have b2 := hb.cell 2
            have b3 := hb.cell 3
            have b4 := hb.cell 4
            have b5 := hb.cell 5
            have b6 := hb.cell 6
            clear hs hd
            go_simp
            exact hK _ _ trivial hC (fun _ => rfl)
          · intro ls a wy hC hz hnew hwait hs hd K hK
            have d2 : a.tmps.getD 90 undef = .agg (richA k d (.slice ao l.length cp)) := by
              obtain ⟨u, hu, hv⟩ := hd 2 90 (by kernel_rfl) (by kernel_rfl)
              injection hv with hv
              rw [hu, ← hv]
            have d2' : a.tmps[90]?.getD undef = .agg (richA k d (.slice ao l.length cp)) := by rw [← Array.getD_eq_getD_getElem?]; exact d2
            clear hs hd
            go_simp
            refine (HNZ.out wy hC).mono ?_
            rintro e wv ⟨rfl, hkv⟩
            exact hK _ _ trivial (hC.trans hkv (fun _ _ h => h)) (fun _ => rfl)
          · intro ls a wy hC hz hnew hwait hs hd K hK
            have hwr : IntKind.i64.wrap ((c : Int) + 1) = (c : Int) + 1 := IntWalk.i64_in _ ⟨by omega, by omega⟩
            have d3 : a.tmps.getD 91 undef = .int .i64 (c : Int) := by
              obtain ⟨u, hu, hv⟩ := hd 3 91 (by kernel_rfl) (by kernel_rfl)
              injection hv with hv
              rw [hu, ← hv]
            have d3' : a.tmps[91]?.getD undef = .int .i64 (c : Int) := by rw [← Array.getD_eq_getD_getElem?]; exact d3
            clear hs hd
            go_simp
            exact hK _ _ trivial hC (fun _ => rfl)
          · intro ls a wy hC hz hnew hwait hs hd K hK
            have hled : decide ((c : Int) + 1 ≤ 24) = false := by simp; omega
            have d4 : a.tmps.getD 92 undef = .int .i64 ((c : Int) + 1) := by
              obtain ⟨u, hu, hv⟩ := hd 4 92 (by kernel_rfl) (by kernel_rfl)
              injection hv with hv
              rw [hu, ← hv]
            have d4' : a.tmps[92]?.getD undef = .int .i64 ((c : Int) + 1) := by rw [← Array.getD_eq_getD_getElem?]; exact d4
            clear hs hd
            go_simp
            exact hK _ _ trivial hC (fun _ => rfl)
          · intro ls a wy hC hz hnew hwait hs hd K hK
            have d1 : a.tmps.getD 89 undef = .bool false := by
              obtain ⟨u, hu, hv⟩ := hd 1 89 (by kernel_rfl) (by kernel_rfl)
              injection hv with hv
              rw [hu, ← hv]
            have d1' : a.tmps[89]?.getD undef = .bool false := by rw [← Array.getD_eq_getD_getElem?]; exact d1
            have d5 : a.tmps.getD 93 undef = .bool false := by
              obtain ⟨u, hu, hv⟩ := hd 5 93 (by kernel_rfl) (by kernel_rfl)
              injection hv with hv
              rw [hu, ← hv]
            have d5' : a.tmps[93]?.getD undef = .bool false := by rw [← Array.getD_eq_getD_getElem?]; exact d5
            clear hs hd
            go_simp
            exact hK _ _ trivial hC (fun _ => rfl)
          · intro ls a wy hC hz hnew hwait hs hd K hK
            have d6 : a.tmps.getD 94 undef = .bool true := by
              obtain ⟨u, hu, hv⟩ := hd 6 94 (by kernel_rfl) (by kernel_rfl)
              injection hv with hv
              rw [hu, ← hv]
            have d6' : a.tmps[94]?.getD undef = .bool true := by rw [← Array.getD_eq_getD_getElem?]; exact d6
            clear hs hd
            go_simp
            exact hK _ _ trivial hC (fun _ => rfl)
          intro ls wy hall hC
          intro v0 h0; injection h0 with h0; subst h0
          intro v1 h1; injection h1 with h1; subst h1
          intro v2 h2; injection h2 with h2; subst h2
          intro v3 h3; injection h3 with h3; subst h3
          intro v4 h4; injection h4 with h4; subst h4
          intro v5 h5; injection h5 with h5; subst h5
          intro v6 h6; injection h6 with h6; subst h6
          intro v7 h7; injection h7 with h7; subst h7
          simp only [EndsP]
          go_simp
          go_wp2_with fail
          go_ret
          exact ⟨rfl, HKZ.out.trans hC (fun _ _ h => h)⟩
theorem richparts_walk (w : World) (hAw : AwakeK8 w) (hWh : WholeK8 w) (x y : R) (v v' : Value) (hr : RichS w x v) (hr' : RichS w y v') (hf : fitsX x) (hf' : fitsX y) :
    Calls Tryz.prog 6 #[v, v'] w fun e w' => e = .returned (.bool true) ∧ Kept (fun _ => False) w w' := by
  cases g1 : (muchX x 0).2 with
  | true => exact parts_large1 w hAw x y v v' hr hr' hf hf' g1
  | false =>
    cases g2 : (muchX y 0).2 with
    | true => exact parts_large2 w hAw x y v v' hr hr' hf hf' g1 g2
    | false =>
      cases hx : whole x with
      | false => exact parts_not w hAw hWh x y v v' hr hr' hf hf' g1 g2 hx
      | true =>
        by_cases hkk : x.kind = 2 ∨ x.kind = 3 ∨ x.kind = 6
        · by_cases hm : y.kind = 1
          · cases hy : whole y with
            | false => exact parts_more2 w hAw hWh x y v v' hr hr' hf hf' g1 g2 hx hkk hm hy
            | true => exact parts_main w hAw hWh x y v v' hr hr' hf hf' g1 g2 hx hkk hm hy
          · exact parts_more w hAw hWh x y v v' hr hr' hf hf' g1 g2 hx hkk hm
        · exact parts_kind w hAw hWh x y v v' hr hr' hf hf' g1 g2 hx hkk
end Go.Proofs.YtlagnebgoclaeaaGreatDoor
