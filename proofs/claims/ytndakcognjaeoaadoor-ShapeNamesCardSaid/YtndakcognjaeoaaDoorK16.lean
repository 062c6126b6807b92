/-
  The walk over the law ShapeJoined. Conditions: as each theorem states.
-/
import Derived.Test.YtndakcognjaeoaaDoorK14
namespace Go.Proofs.YtndakcognjaeoaaDoor
open Go.RowKit Ver Evr Span Dep Rich

theorem rich_formX {W : World} {x : R} {v : Value} (h : RichS W x v) : ∃ ao cp, v = richV x.kind x.dep (.slice ao x.args.length cp) := by
  obtain ⟨k, d, l⟩ := x
  exact rich_form h
theorem count9_walk (x : R) (v : Value) (w : World) (hS : RichS w x v) (hc : count x ≤ 40000) : Calls Tryd.prog 19 #[v] w fun e w' => e = .returned (.int .i64 (count x : Int)) ∧ Kept (fun _ => False) w w' := by
  obtain ⟨t, e1, e2, e3⟩ := rt_of _ _ hS
  rw [← e1, ← e2]
  exact count_t t w e3 (by rw [e1]; omega)
theorem fits_lone : ∀ (x : R) (al : Bool), fitsS 1 true x = fitsS 3 al x := by
  refine R.ind fun k d l ih al => ?_
  rw [fitsS, fitsS]
  by_cases hk : k = 1
  · rw [if_pos hk, if_pos hk]
  · rw [if_neg hk, if_neg hk]
    have h1 : okS k l.length 1 true = okS k l.length 3 al := by
      unfold okS
      by_cases h2 : k = 2 ∨ k = 3 ∨ k = 6
      · rw [if_pos h2, if_pos h2]
      · rw [if_neg h2, if_neg h2]
        by_cases h3 : k = 7
        · rw [if_pos h3, if_pos h3]
        · rw [if_neg h3, if_neg h3]
          by_cases h4 : k = 4
          · rw [if_pos h4, if_pos h4]; simp
          · rw [if_neg h4, if_neg h4]
            by_cases h5 : k = 5
            · rw [if_pos h5, if_pos h5]; simp
            · rw [if_neg h5, if_neg h5]
    have h2 : ∀ (m : List R) (be : Bool), (∀ y ∈ m, y ∈ l) → fitsSL 1 true m = fitsSL 3 be m := by
      intro m
      induction m with
      | nil => intro be _; rw [fitsSL, fitsSL]
      | cons y m ihm => intro be hm; rw [fitsSL, fitsSL, ih y (hm y (by simp)) be, ihm be (fun z hz => hm z (by simp [hz]))]
    rw [h1, show alS k true = true from by unfold alS; simp, h2 l (alS k al) (fun _ h => h)]
theorem two_count (k : Nat) (d : D) (x y : R) : count (.mk k d [x, y]) = 1 + count x + count y := by rw [count, counts, counts, counts]; omega
theorem two_deep {k : Nat} (hk : k ≠ 1) (d : D) (x y : R) : deep (.mk k d [x, y]) = max (deep x) (deep y) + 1 := by rw [deep, if_neg hk, deeps, deeps, deeps]; omega
theorem two_fits {k : Nat} (hk : k ≠ 1) (w : Nat) (x y : R) : fitsS w false (.mk k zD [x, y]) = (okS k 2 w false && (fitsS w (alS k false) x && fitsS w (alS k false) y)) := by
  rw [fitsS, if_neg hk, fitsSL, fitsSL, fitsSL, show noD zD = true from rfl]
  simp
def wantJ (x y : R) : Int := if 24 ≤ count x + count y then 40 else if 8 ≤ deep x ∨ 8 ≤ deep y then 21 else 0
theorem may_two {k : Nat} (hk : k ≠ 1) {x y : R} {z : Bool} (hz : fitsS 1 false (.mk k zD [x, y]) = z) : mayS (.mk k zD [x, y]) 1 = if wantJ x y = 0 then (if z = true then 0 else 4) else wantJ x y := by
  unfold mayS wantJ
  rw [if_neg (by omega), two_count, two_deep hk, hz]
  by_cases h1 : 24 ≤ count x + count y
  · rw [if_pos (by omega), if_pos h1]; rfl
  · rw [if_neg (by omega), if_neg h1]
    by_cases h2 : 8 ≤ deep x ∨ 8 ≤ deep y
    · rw [if_pos (by omega), if_pos h2]; rfl
    · rw [if_neg (by omega), if_neg h2, if_pos rfl]
theorem may_joined {k : Nat} (hk : k = 3 ∨ k = 2 ∨ k = 5) {x y : R} (hx : mayS x 1 = 0) (hy : mayS y 1 = 0) : mayS (.mk k zD [x, y]) 1 = wantJ x y := by
  rw [mayS_ok] at hx hy
  have hz : fitsS 1 false (.mk k zD [x, y]) = true := by
    rw [two_fits (by omega)]
    rcases hk with rfl | rfl | rfl <;> simp [okS, alS, hx.2.2.2, hy.2.2.2]
  rw [may_two (by omega) hz]
  split
  · rename_i h; rw [if_pos rfl, h]
  · rfl
theorem may_with {x y : R} (hx : mayS x 1 = 0) (hy : mayS y 1 = 0) : mayS (.mk 6 zD [x, y]) 1 = if wantJ x y = 0 then (if mayS x 3 = 0 ∧ mayS y 3 = 0 then 0 else 4) else wantJ x y := by
  have hx' := hx
  have hy' := hy
  rw [mayS_ok] at hx' hy'
  have e : ∀ {z : R}, mayS z 1 = 0 → (mayS z 3 = 0 ↔ fitsS 1 true z = true) := by
    intro z hz
    rw [mayS_ok] at hz ⊢
    rw [fits_lone z false]
    exact ⟨fun h => h.2.2.2, fun h => ⟨by omega, hz.2.1, hz.2.2.1, h⟩⟩
  have hz : fitsS 1 false (.mk 6 zD [x, y]) = (fitsS 1 true x && fitsS 1 true y) := by
    rw [two_fits (by omega)]
    simp [okS, alS]
  rw [may_two (by omega) hz]
  by_cases h : wantJ x y = 0
  · rw [if_pos h, if_pos h]
    simp only [e hx, e hy]
    by_cases h1 : fitsS 1 true x = true <;> by_cases h2 : fitsS 1 true y = true <;> simp [h1, h2]
  · rw [if_neg h, if_neg h]
/-- A pair in new memory. -/
theorem two_new {W : World} {x y : R} {k : Nat} {a b : Option Addr} {c e : Nat} (hx : RichS W x (richV x.kind x.dep (.slice a x.args.length c))) (hy : RichS W y (richV y.kind y.dep (.slice b y.args.length e))) :
    ∀ (V : World), Kept (fun _ => False) (W.alloc (.cells ((richA x.kind x.dep (.slice a x.args.length c)) ++ (richA y.kind y.dep (.slice b y.args.length e))) 29)) V → k < 256 → RichS V (.mk k zD [x, y]) (richV k zD (.slice (some ⟨W.heap.size, 0, none⟩) 2 2)) := by
  intro V hV hk
  have h := sl_new (W := W) (g := W.heap.size) [((x, a, c) : Pc), ((y, b, e) : Pc)] rfl (by
    intro p hp
    simp only [List.mem_cons, List.not_mem_nil, or_false] at hp
    obtain ⟨k1, d1, l1⟩ := x
    obtain ⟨k2, d2, l2⟩ := y
    rcases hp with rfl | rfl
    · exact hx
    · exact hy)
  obtain ⟨k1, d1, l1⟩ := x
  obtain ⟨k2, d2, l2⟩ := y
  exact (SlR.kept h hV).rich hk (by decide)
set_option maxRecDepth 100000 in
set_option maxHeartbeats 8000000 in
theorem shapejoined_core (w : World) (hTB : TabW9 w) (hMB : MayP9 w) (x0 x1 : R) (ao0 ao1 : Option Addr) (cp0 cp1 : Nat) (hr0 : RichS w x0 (richV x0.kind x0.dep (.slice ao0 x0.args.length cp0))) (hr1 : RichS w x1 (richV x1.kind x1.dep (.slice ao1 x1.args.length cp1))) :
    Calls Tryd.prog 6 #[(richV x0.kind x0.dep (.slice ao0 x0.args.length cp0)), (richV x1.kind x1.dep (.slice ao1 x1.args.length cp1))] w fun e w' => e = .returned (.bool true) ∧ Kept (fun _ => False) w w' := by
  have HTB := Lib.hid hTB
  have HMB := Lib.hid hMB
  have HR0 := Lib.hid hr0
  have HR1 := Lib.hid hr1
  have HB0 := Lib.hid (show Box ((w.alloc (.cells (richA x0.kind x0.dep (.slice ao0 x0.args.length cp0)) 29)).alloc (.cells (richA x1.kind x1.dep (.slice ao1 x1.args.length cp1)) 29)) w.heap.size 29 (richA x0.kind x0.dep (.slice ao0 x0.args.length cp0)) from (Box.made w _ _).after_alloc _)
  have HB1 := Lib.hid (show Box ((w.alloc (.cells (richA x0.kind x0.dep (.slice ao0 x0.args.length cp0)) 29)).alloc (.cells (richA x1.kind x1.dep (.slice ao1 x1.args.length cp1)) 29)) (w.heap.size + 1) 29 (richA x1.kind x1.dep (.slice ao1 x1.args.length cp1)) from by have h := Box.made (w.alloc (.cells (richA x0.kind x0.dep (.slice ao0 x0.args.length cp0)) 29)) 29 (richA x1.kind x1.dep (.slice ao1 x1.args.length cp1)); simpa only [World.size_alloc] using h)
  have HK := Lib.hid (((Kept.refl (fun _ => False) w).alloc (.cells (richA x0.kind x0.dep (.slice ao0 x0.args.length cp0)) 29)).alloc (.cells (richA x1.kind x1.dep (.slice ao1 x1.args.length cp1)) 29))
  have b0 := HB0.out.cell 0
  have e0 := HB1.out.cell 0
  have b1 := HB0.out.cell 1
  have e1 := HB1.out.cell 1
  have b2 := HB0.out.cell 2
  have e2 := HB1.out.cell 2
  have b3 := HB0.out.cell 3
  have e3 := HB1.out.cell 3
  have b4 := HB0.out.cell 4
  have e4 := HB1.out.cell 4
  have b5 := HB0.out.cell 5
  have e5 := HB1.out.cell 5
  have b6 := HB0.out.cell 6
  have e6 := HB1.out.cell 6
  clear hTB hMB hr0 hr1
  go_enter Tryd.func6, Tryd.ntmps6
  go_wp2_with fail
  refine (works9_walk _ (HTB.out.kept HK.out) (HMB.out.on HK.out)).mono ?_
  rintro e w1 ⟨rfl, hk1⟩
  have HB0 := Lib.hid (hk1.box HB0.out (fun h => h)); have HB1 := Lib.hid (hk1.box HB1.out (fun h => h)); have HK := Lib.hid (HK.out.trans hk1 (fun _ _ h => h)); clear hk1
  clear b0 e0 b1 e1 b2 e2 b3 e3 b4 e4 b5 e5 b6 e6
  have b0 := HB0.out.cell 0
  have e0 := HB1.out.cell 0
  have b1 := HB0.out.cell 1
  have e1 := HB1.out.cell 1
  have b2 := HB0.out.cell 2
  have e2 := HB1.out.cell 2
  have b3 := HB0.out.cell 3
  have e3 := HB1.out.cell 3
  have b4 := HB0.out.cell 4
  have e4 := HB1.out.cell 4
  have b5 := HB0.out.cell 5
  have e5 := HB1.out.cell 5
  have b6 := HB0.out.cell 6
  have e6 := HB1.out.cell 6
  go_wp2_with fail
  refine (large9_walk x0 _ _ (RichS.kept HK.out _ _ HR0.out)).mono ?_
  rintro e w2 ⟨⟨b, rfl, hb⟩, hk2⟩
  have HB0 := Lib.hid (hk2.box HB0.out (fun h => h)); have HB1 := Lib.hid (hk2.box HB1.out (fun h => h)); have HK := Lib.hid (HK.out.trans hk2 (fun _ _ h => h)); clear hk2
  clear b0 e0 b1 e1 b2 e2 b3 e3 b4 e4 b5 e5 b6 e6
  have b0 := HB0.out.cell 0
  have e0 := HB1.out.cell 0
  have b1 := HB0.out.cell 1
  have e1 := HB1.out.cell 1
  have b2 := HB0.out.cell 2
  have e2 := HB1.out.cell 2
  have b3 := HB0.out.cell 3
  have e3 := HB1.out.cell 3
  have b4 := HB0.out.cell 4
  have e4 := HB1.out.cell 4
  have b5 := HB0.out.cell 5
  have e5 := HB1.out.cell 5
  have b6 := HB0.out.cell 6
  have e6 := HB1.out.cell 6
  cases b with
  | true =>
    go_wp2_with fail
    refine (works9_walk _ (HTB.out.kept HK.out) (HMB.out.on HK.out)).mono ?_
    rintro e w9 ⟨rfl, hk9⟩
    go_wp2_with fail
    go_ret
    exact ⟨rfl, HK.out.trans hk9 (fun _ _ h => h)⟩
  | false =>
    have hc0 := hb rfl
    clear hb
    go_wp2_with fail
    refine (large9_walk x1 _ _ (RichS.kept HK.out _ _ HR1.out)).mono ?_
    rintro e w3 ⟨⟨b, rfl, hb⟩, hk3⟩
    have HB0 := Lib.hid (hk3.box HB0.out (fun h => h)); have HB1 := Lib.hid (hk3.box HB1.out (fun h => h)); have HK := Lib.hid (HK.out.trans hk3 (fun _ _ h => h)); clear hk3
    clear b0 e0 b1 e1 b2 e2 b3 e3 b4 e4 b5 e5 b6 e6
    have b0 := HB0.out.cell 0
    have e0 := HB1.out.cell 0
    have b1 := HB0.out.cell 1
    have e1 := HB1.out.cell 1
    have b2 := HB0.out.cell 2
    have e2 := HB1.out.cell 2
    have b3 := HB0.out.cell 3
    have e3 := HB1.out.cell 3
    have b4 := HB0.out.cell 4
    have e4 := HB1.out.cell 4
    have b5 := HB0.out.cell 5
    have e5 := HB1.out.cell 5
    have b6 := HB0.out.cell 6
    have e6 := HB1.out.cell 6
    cases b with
    | true =>
      go_wp2_with fail
      refine (works9_walk _ (HTB.out.kept HK.out) (HMB.out.on HK.out)).mono ?_
      rintro e w9 ⟨rfl, hk9⟩
      go_wp2_with fail
      go_ret
      exact ⟨rfl, HK.out.trans hk9 (fun _ _ h => h)⟩
    | false =>
      have hc1 := hb rfl
      clear hb
      have HC0 := Lib.hid hc0
      have HC1 := Lib.hid hc1
      clear hc0 hc1
      obtain ⟨ma, hma⟩ : ∃ z, z = mayS x0 1 := ⟨_, rfl⟩
      have MC := may9_walk x0 _ 1 _ (RichS.kept HK.out _ _ HR0.out) (by have := HC0.out; omega) (HTB.out.kept HK.out) (HMB.out.on HK.out)
      rw [← hma] at MC
      go_wp2_with fail
      refine (MC).mono ?_
      rintro e w4 ⟨rfl, hk4⟩
      have HB0 := Lib.hid (hk4.box HB0.out (fun h => h)); have HB1 := Lib.hid (hk4.box HB1.out (fun h => h)); have HK := Lib.hid (HK.out.trans hk4 (fun _ _ h => h)); clear hk4
      clear b0 e0 b1 e1 b2 e2 b3 e3 b4 e4 b5 e5 b6 e6
      have b0 := HB0.out.cell 0
      have e0 := HB1.out.cell 0
      have b1 := HB0.out.cell 1
      have e1 := HB1.out.cell 1
      have b2 := HB0.out.cell 2
      have e2 := HB1.out.cell 2
      have b3 := HB0.out.cell 3
      have e3 := HB1.out.cell 3
      have b4 := HB0.out.cell 4
      have e4 := HB1.out.cell 4
      have b5 := HB0.out.cell 5
      have e5 := HB1.out.cell 5
      have b6 := HB0.out.cell 6
      have e6 := HB1.out.cell 6
      clear MC
      by_cases ha0 : ma = 0
      rotate_left
      · have hb0 : (ma != 0) = true := by simpa using ha0
        go_wp2_with fail
        go_ret
        exact ⟨rfl, HK.out⟩
      subst ha0
      obtain ⟨mb, hmb⟩ : ∃ z, z = mayS x1 1 := ⟨_, rfl⟩
      have MC := may9_walk x1 _ 1 _ (RichS.kept HK.out _ _ HR1.out) (by have := HC1.out; omega) (HTB.out.kept HK.out) (HMB.out.on HK.out)
      rw [← hmb] at MC
      go_wp2_with fail
      refine (MC).mono ?_
      rintro e w5 ⟨rfl, hk5⟩
      have HB0 := Lib.hid (hk5.box HB0.out (fun h => h)); have HB1 := Lib.hid (hk5.box HB1.out (fun h => h)); have HK := Lib.hid (HK.out.trans hk5 (fun _ _ h => h)); clear hk5
      clear b0 e0 b1 e1 b2 e2 b3 e3 b4 e4 b5 e5 b6 e6
      have b0 := HB0.out.cell 0
      have e0 := HB1.out.cell 0
      have b1 := HB0.out.cell 1
      have e1 := HB1.out.cell 1
      have b2 := HB0.out.cell 2
      have e2 := HB1.out.cell 2
      have b3 := HB0.out.cell 3
      have e3 := HB1.out.cell 3
      have b4 := HB0.out.cell 4
      have e4 := HB1.out.cell 4
      have b5 := HB0.out.cell 5
      have e5 := HB1.out.cell 5
      have b6 := HB0.out.cell 6
      have e6 := HB1.out.cell 6
      clear MC
      by_cases ha0 : mb = 0
      rotate_left
      · have hb0 : (mb != 0) = true := by simpa using ha0
        go_wp2_with fail
        go_ret
        exact ⟨rfl, HK.out⟩
      subst ha0
      have HJ := Lib.hid (fun (k : Nat) (hk : k = 3 ∨ k = 2 ∨ k = 5) => may_joined hk hma.symm hmb.symm)
      have HW := Lib.hid (may_with hma.symm hmb.symm)
      have HX0 := Lib.hid hma.symm
      have HX1 := Lib.hid hmb.symm
      clear hma hmb
      have CC0 := Lib.hid (fun (W : World) (hW : Kept (fun _ => False) w W) => count9_walk x0 _ W (RichS.kept hW _ _ HR0.out) (by have := HC0.out; omega))
      have CC1 := Lib.hid (fun (W : World) (hW : Kept (fun _ => False) w W) => count9_walk x1 _ W (RichS.kept hW _ _ HR1.out) (by have := HC1.out; omega))
      obtain ⟨T, F, t0, ht0, hFk, hFs⟩ := class_of w5
      have fB0 := fun t => (hFk t).box HB0.out (fun h => h)
      have fB1 := fun t => (hFk t).box HB1.out (fun h => h)
      have q0 := fun t => (fB0 t).cell 0
      have r0 := fun t => (fB1 t).cell 0
      have q1 := fun t => (fB0 t).cell 1
      have r1 := fun t => (fB1 t).cell 1
      have q2 := fun t => (fB0 t).cell 2
      have r2 := fun t => (fB1 t).cell 2
      have q3 := fun t => (fB0 t).cell 3
      have r3 := fun t => (fB1 t).cell 3
      have q4 := fun t => (fB0 t).cell 4
      have r4 := fun t => (fB1 t).cell 4
      have q5 := fun t => (fB0 t).cell 5
      have r5 := fun t => (fB1 t).cell 5
      have q6 := fun t => (fB0 t).cell 6
      have r6 := fun t => (fB1 t).cell 6
      have k1 := fun t => CC0.out (F t) (HK.out.trans (hFk t) (fun _ _ h => h))
      have k2 := fun t => CC1.out (F t) (HK.out.trans (hFk t) (fun _ _ h => h))
      have HFK := Lib.hid hFk
      have HFS := Lib.hid hFs
      have hcI : (count x0 : Int) < 600 := by have := HC0.out; omega
      have hcJ : (count x1 : Int) < 600 := by have := HC1.out; omega
      have hcI0 : (0 : Int) ≤ (count x0 : Int) := by omega
      have hcJ0 : (0 : Int) ≤ (count x1 : Int) := by omega
      clear hFk hFs fB0 fB1 CC0 CC1
      have hne : Nonempty T := ⟨t0⟩
      go_wp2_with fail
      refine wp_region_class F t0 ht0 (by kernel_rfl) (by kernel_rfl) ?_
      repeat (go_big_quiet_step (first
        | (go_at_call 19; with_reducible exact class_call HFS.out (k1 _))
        | (go_at_call 19; with_reducible exact class_call HFS.out (k2 _))
        ))
      refine wpQuiet_nil ?_
      rintro _ ⟨tz, rfl⟩
      have hkz := HFK.out tz
      have HB0 := Lib.hid (hkz.box HB0.out (fun h => h)); have HB1 := Lib.hid (hkz.box HB1.out (fun h => h)); have HK := Lib.hid (HK.out.trans hkz (fun _ _ h => h)); clear hkz
      generalize F tz = w6 at *
      clear k1 k2 q0 r0 q1 r1 q2 r2 q3 r3 q4 r4 q5 r5 q6 r6 hne ht0 HFK HFS
      clear b0 e0 b1 e1 b2 e2 b3 e3 b4 e4 b5 e5 b6 e6
      have b0 := HB0.out.cell 0
      have e0 := HB1.out.cell 0
      have b1 := HB0.out.cell 1
      have e1 := HB1.out.cell 1
      have b2 := HB0.out.cell 2
      have e2 := HB1.out.cell 2
      have b3 := HB0.out.cell 3
      have e3 := HB1.out.cell 3
      have b4 := HB0.out.cell 4
      have e4 := HB1.out.cell 4
      have b5 := HB0.out.cell 5
      have e5 := HB1.out.cell 5
      have b6 := HB0.out.cell 6
      have e6 := HB1.out.cell 6
      by_cases h24 : 24 ≤ count x0 + count x1
      · have hI24 : (24 : Int) ≤ (count x0 : Int) + (count x1 : Int) := by omega
        rw [decide_eq_true hI24]
        clear hI24
        have HMW := Lib.hid (show wantJ x0 x1 = 40 by unfold wantJ; rw [if_pos h24])
        clear h24
        have HJ3 := Lib.hid (fun (k : Nat) (hk : k = 3 ∨ k = 2 ∨ k = 5) => (HJ.out k hk).trans HMW.out)
        go_wp2_with fail
        have HU := Lib.hid (show Box (w6.alloc (.cells #[.int .u8 3, .int .u8 2, .int .u8 5] 5)) w6.heap.size 5 #[.int .u8 3, .int .u8 2, .int .u8 5] from Box.made w6 _ _)
        have hkU : Kept (fun _ => False) w6 (w6.alloc (.cells #[.int .u8 3, .int .u8 2, .int .u8 5] 5)) := (Kept.refl _ w6).alloc _
        have HB0 := Lib.hid (hkU.box HB0.out (fun h => h)); have HB1 := Lib.hid (hkU.box HB1.out (fun h => h)); have HK := Lib.hid (HK.out.trans hkU (fun _ _ h => h)); clear hkU
        generalize w6.alloc (.cells #[.int .u8 3, .int .u8 2, .int .u8 5] 5) = wu at *
        generalize w6.heap.size = gu at *
        clear b0 e0 b1 e1 b2 e2 b3 e3 b4 e4 b5 e5 b6 e6
        go_loopw [45] (fun v45 wr => ∃ i : Nat, v45 = .int .i64 (i : Int) ∧ i ≤ 3 ∧ Hid (Box wr gu 5 #[.int .u8 3, .int .u8 2, .int .u8 5]) ∧ Hid (Box wr w.heap.size 29 (richA x0.kind x0.dep (.slice ao0 x0.args.length cp0))) ∧ Hid (Box wr (w.heap.size + 1) 29 (richA x1.kind x1.dep (.slice ao1 x1.args.length cp1))) ∧ Hid (Kept (fun _ => False) w wr)) (fun v45 _ => 3 - (intOf v45).toNat)
        case atStart => exact ⟨0, rfl, Nat.zero_le _, HU, HB0, HB1, HK⟩
        case round =>
          repeat clear HB0
          repeat clear HB1
          repeat clear HK
          repeat clear HU
          obtain ⟨i, rfl, hi, HU, HB0, HB1, HK⟩ := hrel
          rename World => wr
          have b0 := HB0.out.cell 0
          have e0 := HB1.out.cell 0
          have b1 := HB0.out.cell 1
          have e1 := HB1.out.cell 1
          have b2 := HB0.out.cell 2
          have e2 := HB1.out.cell 2
          have b3 := HB0.out.cell 3
          have e3 := HB1.out.cell 3
          have b4 := HB0.out.cell 4
          have e4 := HB1.out.cell 4
          have b5 := HB0.out.cell 5
          have e5 := HB1.out.cell 5
          have b6 := HB0.out.cell 6
          have e6 := HB1.out.cell 6
          by_cases hlt : i < 3
          · obtain ⟨kd, hkd, u0⟩ : ∃ kd : Nat, (kd = 3 ∨ kd = 2 ∨ kd = 5) ∧ wr.cell? ⟨gu, i, none⟩ = some (.int .u8 (kd : Int)) := by
              have hi3 : i = 0 ∨ i = 1 ∨ i = 2 := by omega
              rcases hi3 with rfl | rfl | rfl
              · exact ⟨3, .inl rfl, HU.out.cell 0⟩
              · exact ⟨2, .inr (.inl rfl), HU.out.cell 1⟩
              · exact ⟨5, .inr (.inr rfl), HU.out.cell 2⟩
            have hi0 : (0 : Int) ≤ (i : Int) := by omega
            have hiI : (i : Int) < 3 := by omega
            go_wp2_with fail
            refine (rich9_walk kd (.slice (some ⟨wr.heap.size, 0, none⟩) 2 2) ⟨_, _, _, rfl⟩ _).mono ?_
            rintro e w7 ⟨rfl, hk7⟩
            have HRN := Lib.hid (two_new (k := kd) (RichS.kept HK.out _ _ HR0.out) (RichS.kept HK.out _ _ HR1.out) w7 hk7 (by omega))
            have hkA : Kept (fun _ => False) wr (wr.alloc (.cells ((richA x0.kind x0.dep (.slice ao0 x0.args.length cp0)) ++ (richA x1.kind x1.dep (.slice ao1 x1.args.length cp1))) 29)) := (Kept.refl _ wr).alloc _
            have hk8 := Kept.trans hkA hk7 (fun _ _ h => h)
            have HU := Lib.hid (hk8.box HU.out (fun h => h))
            clear hk7 hkA u0
            have HB0 := Lib.hid (hk8.box HB0.out (fun h => h)); have HB1 := Lib.hid (hk8.box HB1.out (fun h => h)); have HK := Lib.hid (HK.out.trans hk8 (fun _ _ h => h)); clear hk8
            clear b0 e0 b1 e1 b2 e2 b3 e3 b4 e4 b5 e5 b6 e6
            have b0 := HB0.out.cell 0
            have e0 := HB1.out.cell 0
            have b1 := HB0.out.cell 1
            have e1 := HB1.out.cell 1
            have b2 := HB0.out.cell 2
            have e2 := HB1.out.cell 2
            have b3 := HB0.out.cell 3
            have e3 := HB1.out.cell 3
            have b4 := HB0.out.cell 4
            have e4 := HB1.out.cell 4
            have b5 := HB0.out.cell 5
            have e5 := HB1.out.cell 5
            have b6 := HB0.out.cell 6
            have e6 := HB1.out.cell 6
            have MC := may9_walk (.mk kd zD [x0, x1]) _ 1 w7 HRN.out (by rw [two_count]; have := HC0.out; have := HC1.out; omega) (HTB.out.kept HK.out) (HMB.out.on HK.out)
            rw [HJ3.out kd hkd] at MC
            clear HRN
            go_wp2_with fail
            refine MC.mono ?_
            rintro e w9 ⟨rfl, hk9⟩
            have HU := Lib.hid (hk9.box HU.out (fun h => h))
            have HB0 := Lib.hid (hk9.box HB0.out (fun h => h)); have HB1 := Lib.hid (hk9.box HB1.out (fun h => h)); have HK := Lib.hid (HK.out.trans hk9 (fun _ _ h => h)); clear hk9
            clear MC
            clear b0 e0 b1 e1 b2 e2 b3 e3 b4 e4 b5 e5 b6 e6
            have b0 := HB0.out.cell 0
            have e0 := HB1.out.cell 0
            have b1 := HB0.out.cell 1
            have e1 := HB1.out.cell 1
            have b2 := HB0.out.cell 2
            have e2 := HB1.out.cell 2
            have b3 := HB0.out.cell 3
            have e3 := HB1.out.cell 3
            have b4 := HB0.out.cell 4
            have e4 := HB1.out.cell 4
            have b5 := HB0.out.cell 5
            have e5 := HB1.out.cell 5
            have b6 := HB0.out.cell 6
            have e6 := HB1.out.cell 6
            clear b0 e0 b1 e1 b2 e2 b3 e3 b4 e4 b5 e5 b6 e6
            go_wp2_with fail
            go_roundw
            case rel => first | exact ⟨i + 1, by go_num, by omega, HU, HB0, HB1, HK⟩ | ((repeat apply Exists.intro); refine ⟨?_, rfl⟩; exact ⟨i + 1, by go_num, by omega, HU, HB0, HB1, HK⟩)
            case measure => first | (simp [intOf]; done) | (simp [intOf]; omega)
          · obtain rfl : i = 3 := by omega
            clear hlt hi
            have HAN := Lib.hid (show mayS (.mk 6 zD [x0, x1]) 1 = 40 by rw [HW.out, if_neg (by rw [HMW.out]; decide), HMW.out])
            go_wp2_with fail
            refine (rich9_walk 6 (.slice (some ⟨wr.heap.size, 0, none⟩) 2 2) ⟨_, _, _, rfl⟩ _).mono ?_
            rintro e w7 ⟨rfl, hk7⟩
            have HRN := Lib.hid (two_new (k := 6) (RichS.kept HK.out _ _ HR0.out) (RichS.kept HK.out _ _ HR1.out) w7 hk7 (by decide))
            have hkA : Kept (fun _ => False) wr (wr.alloc (.cells ((richA x0.kind x0.dep (.slice ao0 x0.args.length cp0)) ++ (richA x1.kind x1.dep (.slice ao1 x1.args.length cp1))) 29)) := (Kept.refl _ wr).alloc _
            have hk8 := Kept.trans hkA hk7 (fun _ _ h => h)
            clear hk7 hkA
            have HB0 := Lib.hid (hk8.box HB0.out (fun h => h)); have HB1 := Lib.hid (hk8.box HB1.out (fun h => h)); have HK := Lib.hid (HK.out.trans hk8 (fun _ _ h => h)); clear hk8
            clear b0 e0 b1 e1 b2 e2 b3 e3 b4 e4 b5 e5 b6 e6
            have b0 := HB0.out.cell 0
            have e0 := HB1.out.cell 0
            have b1 := HB0.out.cell 1
            have e1 := HB1.out.cell 1
            have b2 := HB0.out.cell 2
            have e2 := HB1.out.cell 2
            have b3 := HB0.out.cell 3
            have e3 := HB1.out.cell 3
            have b4 := HB0.out.cell 4
            have e4 := HB1.out.cell 4
            have b5 := HB0.out.cell 5
            have e5 := HB1.out.cell 5
            have b6 := HB0.out.cell 6
            have e6 := HB1.out.cell 6
            have MC := may9_walk (.mk 6 zD [x0, x1]) _ 1 w7 HRN.out (by rw [two_count]; have := HC0.out; have := HC1.out; omega) (HTB.out.kept HK.out) (HMB.out.on HK.out)
            rw [HAN.out] at MC
            clear HRN
            go_wp2_with fail
            refine MC.mono ?_
            rintro e w9 ⟨rfl, hk9⟩
            have HB0 := Lib.hid (hk9.box HB0.out (fun h => h)); have HB1 := Lib.hid (hk9.box HB1.out (fun h => h)); have HK := Lib.hid (HK.out.trans hk9 (fun _ _ h => h)); clear hk9
            clear MC
            clear b0 e0 b1 e1 b2 e2 b3 e3 b4 e4 b5 e5 b6 e6
            have b0 := HB0.out.cell 0
            have e0 := HB1.out.cell 0
            have b1 := HB0.out.cell 1
            have e1 := HB1.out.cell 1
            have b2 := HB0.out.cell 2
            have e2 := HB1.out.cell 2
            have b3 := HB0.out.cell 3
            have e3 := HB1.out.cell 3
            have b4 := HB0.out.cell 4
            have e4 := HB1.out.cell 4
            have b5 := HB0.out.cell 5
            have e5 := HB1.out.cell 5
            have b6 := HB0.out.cell 6
            have e6 := HB1.out.cell 6
            go_wp2_with fail
            go_ret
            exact ⟨rfl, HK.out⟩
      have hI24 : ¬ (24 : Int) ≤ (count x0 : Int) + (count x1 : Int) := by omega
      rw [decide_eq_false hI24]
      clear hI24
      have DC := depth9_walk x0 _ w6 (RichS.kept HK.out _ _ HR0.out) (by have := HC0.out; omega)
      go_wp2_with fail
      refine DC.mono ?_
      rintro e w10 ⟨rfl, hk10⟩
      have HB0 := Lib.hid (hk10.box HB0.out (fun h => h)); have HB1 := Lib.hid (hk10.box HB1.out (fun h => h)); have HK := Lib.hid (HK.out.trans hk10 (fun _ _ h => h)); clear hk10
      clear DC
      clear b0 e0 b1 e1 b2 e2 b3 e3 b4 e4 b5 e5 b6 e6
      have b0 := HB0.out.cell 0
      have e0 := HB1.out.cell 0
      have b1 := HB0.out.cell 1
      have e1 := HB1.out.cell 1
      have b2 := HB0.out.cell 2
      have e2 := HB1.out.cell 2
      have b3 := HB0.out.cell 3
      have e3 := HB1.out.cell 3
      have b4 := HB0.out.cell 4
      have e4 := HB1.out.cell 4
      have b5 := HB0.out.cell 5
      have e5 := HB1.out.cell 5
      have b6 := HB0.out.cell 6
      have e6 := HB1.out.cell 6
      by_cases hd0 : 8 ≤ deep x0
      · have hI8 : (8 : Int) ≤ (deep x0 : Int) := by omega
        have HMW := Lib.hid (show wantJ x0 x1 = 21 by unfold wantJ; rw [if_neg h24, if_pos (.inl hd0)])
        clear h24 hd0
        obtain ⟨w6, hw6⟩ : ∃ w6, w6 = w10 := ⟨_, rfl⟩
        subst hw6
        have HJ3 := Lib.hid (fun (k : Nat) (hk : k = 3 ∨ k = 2 ∨ k = 5) => (HJ.out k hk).trans HMW.out)
        go_wp2_with fail
        have HU := Lib.hid (show Box (w6.alloc (.cells #[.int .u8 3, .int .u8 2, .int .u8 5] 5)) w6.heap.size 5 #[.int .u8 3, .int .u8 2, .int .u8 5] from Box.made w6 _ _)
        have hkU : Kept (fun _ => False) w6 (w6.alloc (.cells #[.int .u8 3, .int .u8 2, .int .u8 5] 5)) := (Kept.refl _ w6).alloc _
        have HB0 := Lib.hid (hkU.box HB0.out (fun h => h)); have HB1 := Lib.hid (hkU.box HB1.out (fun h => h)); have HK := Lib.hid (HK.out.trans hkU (fun _ _ h => h)); clear hkU
        generalize w6.alloc (.cells #[.int .u8 3, .int .u8 2, .int .u8 5] 5) = wu at *
        generalize w6.heap.size = gu at *
        clear b0 e0 b1 e1 b2 e2 b3 e3 b4 e4 b5 e5 b6 e6
        go_loopw [45] (fun v45 wr => ∃ i : Nat, v45 = .int .i64 (i : Int) ∧ i ≤ 3 ∧ Hid (Box wr gu 5 #[.int .u8 3, .int .u8 2, .int .u8 5]) ∧ Hid (Box wr w.heap.size 29 (richA x0.kind x0.dep (.slice ao0 x0.args.length cp0))) ∧ Hid (Box wr (w.heap.size + 1) 29 (richA x1.kind x1.dep (.slice ao1 x1.args.length cp1))) ∧ Hid (Kept (fun _ => False) w wr)) (fun v45 _ => 3 - (intOf v45).toNat)
        case atStart => exact ⟨0, rfl, Nat.zero_le _, HU, HB0, HB1, HK⟩
        case round =>
          repeat clear HB0
          repeat clear HB1
          repeat clear HK
          repeat clear HU
          obtain ⟨i, rfl, hi, HU, HB0, HB1, HK⟩ := hrel
          rename World => wr
          have b0 := HB0.out.cell 0
          have e0 := HB1.out.cell 0
          have b1 := HB0.out.cell 1
          have e1 := HB1.out.cell 1
          have b2 := HB0.out.cell 2
          have e2 := HB1.out.cell 2
          have b3 := HB0.out.cell 3
          have e3 := HB1.out.cell 3
          have b4 := HB0.out.cell 4
          have e4 := HB1.out.cell 4
          have b5 := HB0.out.cell 5
          have e5 := HB1.out.cell 5
          have b6 := HB0.out.cell 6
          have e6 := HB1.out.cell 6
          by_cases hlt : i < 3
          · obtain ⟨kd, hkd, u0⟩ : ∃ kd : Nat, (kd = 3 ∨ kd = 2 ∨ kd = 5) ∧ wr.cell? ⟨gu, i, none⟩ = some (.int .u8 (kd : Int)) := by
              have hi3 : i = 0 ∨ i = 1 ∨ i = 2 := by omega
              rcases hi3 with rfl | rfl | rfl
              · exact ⟨3, .inl rfl, HU.out.cell 0⟩
              · exact ⟨2, .inr (.inl rfl), HU.out.cell 1⟩
              · exact ⟨5, .inr (.inr rfl), HU.out.cell 2⟩
            have hi0 : (0 : Int) ≤ (i : Int) := by omega
            have hiI : (i : Int) < 3 := by omega
            go_wp2_with fail
            refine (rich9_walk kd (.slice (some ⟨wr.heap.size, 0, none⟩) 2 2) ⟨_, _, _, rfl⟩ _).mono ?_
            rintro e w7 ⟨rfl, hk7⟩
            have HRN := Lib.hid (two_new (k := kd) (RichS.kept HK.out _ _ HR0.out) (RichS.kept HK.out _ _ HR1.out) w7 hk7 (by omega))
            have hkA : Kept (fun _ => False) wr (wr.alloc (.cells ((richA x0.kind x0.dep (.slice ao0 x0.args.length cp0)) ++ (richA x1.kind x1.dep (.slice ao1 x1.args.length cp1))) 29)) := (Kept.refl _ wr).alloc _
            have hk8 := Kept.trans hkA hk7 (fun _ _ h => h)
            have HU := Lib.hid (hk8.box HU.out (fun h => h))
            clear hk7 hkA u0
            have HB0 := Lib.hid (hk8.box HB0.out (fun h => h)); have HB1 := Lib.hid (hk8.box HB1.out (fun h => h)); have HK := Lib.hid (HK.out.trans hk8 (fun _ _ h => h)); clear hk8
            clear b0 e0 b1 e1 b2 e2 b3 e3 b4 e4 b5 e5 b6 e6
            have b0 := HB0.out.cell 0
            have e0 := HB1.out.cell 0
            have b1 := HB0.out.cell 1
            have e1 := HB1.out.cell 1
            have b2 := HB0.out.cell 2
            have e2 := HB1.out.cell 2
            have b3 := HB0.out.cell 3
            have e3 := HB1.out.cell 3
            have b4 := HB0.out.cell 4
            have e4 := HB1.out.cell 4
            have b5 := HB0.out.cell 5
            have e5 := HB1.out.cell 5
            have b6 := HB0.out.cell 6
            have e6 := HB1.out.cell 6
            have MC := may9_walk (.mk kd zD [x0, x1]) _ 1 w7 HRN.out (by rw [two_count]; have := HC0.out; have := HC1.out; omega) (HTB.out.kept HK.out) (HMB.out.on HK.out)
            rw [HJ3.out kd hkd] at MC
            clear HRN
            go_wp2_with fail
            refine MC.mono ?_
            rintro e w9 ⟨rfl, hk9⟩
            have HU := Lib.hid (hk9.box HU.out (fun h => h))
            have HB0 := Lib.hid (hk9.box HB0.out (fun h => h)); have HB1 := Lib.hid (hk9.box HB1.out (fun h => h)); have HK := Lib.hid (HK.out.trans hk9 (fun _ _ h => h)); clear hk9
            clear MC
            clear b0 e0 b1 e1 b2 e2 b3 e3 b4 e4 b5 e5 b6 e6
            have b0 := HB0.out.cell 0
            have e0 := HB1.out.cell 0
            have b1 := HB0.out.cell 1
            have e1 := HB1.out.cell 1
            have b2 := HB0.out.cell 2
            have e2 := HB1.out.cell 2
            have b3 := HB0.out.cell 3
            have e3 := HB1.out.cell 3
            have b4 := HB0.out.cell 4
            have e4 := HB1.out.cell 4
            have b5 := HB0.out.cell 5
            have e5 := HB1.out.cell 5
            have b6 := HB0.out.cell 6
            have e6 := HB1.out.cell 6
            clear b0 e0 b1 e1 b2 e2 b3 e3 b4 e4 b5 e5 b6 e6
            go_wp2_with fail
            go_roundw
            case rel => first | exact ⟨i + 1, by go_num, by omega, HU, HB0, HB1, HK⟩ | ((repeat apply Exists.intro); refine ⟨?_, rfl⟩; exact ⟨i + 1, by go_num, by omega, HU, HB0, HB1, HK⟩)
            case measure => first | (simp [intOf]; done) | (simp [intOf]; omega)
          · obtain rfl : i = 3 := by omega
            clear hlt hi
            have HAN := Lib.hid (show mayS (.mk 6 zD [x0, x1]) 1 = 21 by rw [HW.out, if_neg (by rw [HMW.out]; decide), HMW.out])
            go_wp2_with fail
            refine (rich9_walk 6 (.slice (some ⟨wr.heap.size, 0, none⟩) 2 2) ⟨_, _, _, rfl⟩ _).mono ?_
            rintro e w7 ⟨rfl, hk7⟩
            have HRN := Lib.hid (two_new (k := 6) (RichS.kept HK.out _ _ HR0.out) (RichS.kept HK.out _ _ HR1.out) w7 hk7 (by decide))
            have hkA : Kept (fun _ => False) wr (wr.alloc (.cells ((richA x0.kind x0.dep (.slice ao0 x0.args.length cp0)) ++ (richA x1.kind x1.dep (.slice ao1 x1.args.length cp1))) 29)) := (Kept.refl _ wr).alloc _
            have hk8 := Kept.trans hkA hk7 (fun _ _ h => h)
            clear hk7 hkA
            have HB0 := Lib.hid (hk8.box HB0.out (fun h => h)); have HB1 := Lib.hid (hk8.box HB1.out (fun h => h)); have HK := Lib.hid (HK.out.trans hk8 (fun _ _ h => h)); clear hk8
            clear b0 e0 b1 e1 b2 e2 b3 e3 b4 e4 b5 e5 b6 e6
            have b0 := HB0.out.cell 0
            have e0 := HB1.out.cell 0
            have b1 := HB0.out.cell 1
            have e1 := HB1.out.cell 1
            have b2 := HB0.out.cell 2
            have e2 := HB1.out.cell 2
            have b3 := HB0.out.cell 3
            have e3 := HB1.out.cell 3
            have b4 := HB0.out.cell 4
            have e4 := HB1.out.cell 4
            have b5 := HB0.out.cell 5
            have e5 := HB1.out.cell 5
            have b6 := HB0.out.cell 6
            have e6 := HB1.out.cell 6
            have MC := may9_walk (.mk 6 zD [x0, x1]) _ 1 w7 HRN.out (by rw [two_count]; have := HC0.out; have := HC1.out; omega) (HTB.out.kept HK.out) (HMB.out.on HK.out)
            rw [HAN.out] at MC
            clear HRN
            go_wp2_with fail
            refine MC.mono ?_
            rintro e w9 ⟨rfl, hk9⟩
            have HB0 := Lib.hid (hk9.box HB0.out (fun h => h)); have HB1 := Lib.hid (hk9.box HB1.out (fun h => h)); have HK := Lib.hid (HK.out.trans hk9 (fun _ _ h => h)); clear hk9
            clear MC
            clear b0 e0 b1 e1 b2 e2 b3 e3 b4 e4 b5 e5 b6 e6
            have b0 := HB0.out.cell 0
            have e0 := HB1.out.cell 0
            have b1 := HB0.out.cell 1
            have e1 := HB1.out.cell 1
            have b2 := HB0.out.cell 2
            have e2 := HB1.out.cell 2
            have b3 := HB0.out.cell 3
            have e3 := HB1.out.cell 3
            have b4 := HB0.out.cell 4
            have e4 := HB1.out.cell 4
            have b5 := HB0.out.cell 5
            have e5 := HB1.out.cell 5
            have b6 := HB0.out.cell 6
            have e6 := HB1.out.cell 6
            go_wp2_with fail
            go_ret
            exact ⟨rfl, HK.out⟩
      have hI8 : ¬ (8 : Int) ≤ (deep x0 : Int) := by omega
      have DC := depth9_walk x1 _ w10 (RichS.kept HK.out _ _ HR1.out) (by have := HC1.out; omega)
      go_wp2_with fail
      refine DC.mono ?_
      rintro e w11 ⟨rfl, hk11⟩
      have HB0 := Lib.hid (hk11.box HB0.out (fun h => h)); have HB1 := Lib.hid (hk11.box HB1.out (fun h => h)); have HK := Lib.hid (HK.out.trans hk11 (fun _ _ h => h)); clear hk11
      clear DC
      clear b0 e0 b1 e1 b2 e2 b3 e3 b4 e4 b5 e5 b6 e6
      have b0 := HB0.out.cell 0
      have e0 := HB1.out.cell 0
      have b1 := HB0.out.cell 1
      have e1 := HB1.out.cell 1
      have b2 := HB0.out.cell 2
      have e2 := HB1.out.cell 2
      have b3 := HB0.out.cell 3
      have e3 := HB1.out.cell 3
      have b4 := HB0.out.cell 4
      have e4 := HB1.out.cell 4
      have b5 := HB0.out.cell 5
      have e5 := HB1.out.cell 5
      have b6 := HB0.out.cell 6
      have e6 := HB1.out.cell 6
      by_cases hd1 : 8 ≤ deep x1
      · have hI9 : (8 : Int) ≤ (deep x1 : Int) := by omega
        have HMW := Lib.hid (show wantJ x0 x1 = 21 by unfold wantJ; rw [if_neg h24, if_pos (.inr hd1)])
        clear h24 hd0 hd1
        obtain ⟨w6, hw6⟩ : ∃ w6, w6 = w11 := ⟨_, rfl⟩
        subst hw6
        have HJ3 := Lib.hid (fun (k : Nat) (hk : k = 3 ∨ k = 2 ∨ k = 5) => (HJ.out k hk).trans HMW.out)
        go_wp2_with fail
        have HU := Lib.hid (show Box (w6.alloc (.cells #[.int .u8 3, .int .u8 2, .int .u8 5] 5)) w6.heap.size 5 #[.int .u8 3, .int .u8 2, .int .u8 5] from Box.made w6 _ _)
        have hkU : Kept (fun _ => False) w6 (w6.alloc (.cells #[.int .u8 3, .int .u8 2, .int .u8 5] 5)) := (Kept.refl _ w6).alloc _
        have HB0 := Lib.hid (hkU.box HB0.out (fun h => h)); have HB1 := Lib.hid (hkU.box HB1.out (fun h => h)); have HK := Lib.hid (HK.out.trans hkU (fun _ _ h => h)); clear hkU
        generalize w6.alloc (.cells #[.int .u8 3, .int .u8 2, .int .u8 5] 5) = wu at *
        generalize w6.heap.size = gu at *
        clear b0 e0 b1 e1 b2 e2 b3 e3 b4 e4 b5 e5 b6 e6
        go_loopw [45] (fun v45 wr => ∃ i : Nat, v45 = .int .i64 (i : Int) ∧ i ≤ 3 ∧ Hid (Box wr gu 5 #[.int .u8 3, .int .u8 2, .int .u8 5]) ∧ Hid (Box wr w.heap.size 29 (richA x0.kind x0.dep (.slice ao0 x0.args.length cp0))) ∧ Hid (Box wr (w.heap.size + 1) 29 (richA x1.kind x1.dep (.slice ao1 x1.args.length cp1))) ∧ Hid (Kept (fun _ => False) w wr)) (fun v45 _ => 3 - (intOf v45).toNat)
        case atStart => exact ⟨0, rfl, Nat.zero_le _, HU, HB0, HB1, HK⟩
        case round =>
          repeat clear HB0
          repeat clear HB1
          repeat clear HK
          repeat clear HU
          obtain ⟨i, rfl, hi, HU, HB0, HB1, HK⟩ := hrel
          rename World => wr
          have b0 := HB0.out.cell 0
          have e0 := HB1.out.cell 0
          have b1 := HB0.out.cell 1
          have e1 := HB1.out.cell 1
          have b2 := HB0.out.cell 2
          have e2 := HB1.out.cell 2
          have b3 := HB0.out.cell 3
          have e3 := HB1.out.cell 3
          have b4 := HB0.out.cell 4
          have e4 := HB1.out.cell 4
          have b5 := HB0.out.cell 5
          have e5 := HB1.out.cell 5
          have b6 := HB0.out.cell 6
          have e6 := HB1.out.cell 6
          by_cases hlt : i < 3
          · obtain ⟨kd, hkd, u0⟩ : ∃ kd : Nat, (kd = 3 ∨ kd = 2 ∨ kd = 5) ∧ wr.cell? ⟨gu, i, none⟩ = some (.int .u8 (kd : Int)) := by
              have hi3 : i = 0 ∨ i = 1 ∨ i = 2 := by omega
              rcases hi3 with rfl | rfl | rfl
              · exact ⟨3, .inl rfl, HU.out.cell 0⟩
              · exact ⟨2, .inr (.inl rfl), HU.out.cell 1⟩
              · exact ⟨5, .inr (.inr rfl), HU.out.cell 2⟩
            have hi0 : (0 : Int) ≤ (i : Int) := by omega
            have hiI : (i : Int) < 3 := by omega
            go_wp2_with fail
            refine (rich9_walk kd (.slice (some ⟨wr.heap.size, 0, none⟩) 2 2) ⟨_, _, _, rfl⟩ _).mono ?_
            rintro e w7 ⟨rfl, hk7⟩
            have HRN := Lib.hid (two_new (k := kd) (RichS.kept HK.out _ _ HR0.out) (RichS.kept HK.out _ _ HR1.out) w7 hk7 (by omega))
            have hkA : Kept (fun _ => False) wr (wr.alloc (.cells ((richA x0.kind x0.dep (.slice ao0 x0.args.length cp0)) ++ (richA x1.kind x1.dep (.slice ao1 x1.args.length cp1))) 29)) := (Kept.refl _ wr).alloc _
            have hk8 := Kept.trans hkA hk7 (fun _ _ h => h)
            have HU := Lib.hid (hk8.box HU.out (fun h => h))
            clear hk7 hkA u0
            have HB0 := Lib.hid (hk8.box HB0.out (fun h => h)); have HB1 := Lib.hid (hk8.box HB1.out (fun h => h)); have HK := Lib.hid (HK.out.trans hk8 (fun _ _ h => h)); clear hk8
            clear b0 e0 b1 e1 b2 e2 b3 e3 b4 e4 b5 e5 b6 e6
            have b0 := HB0.out.cell 0
            have e0 := HB1.out.cell 0
            have b1 := HB0.out.cell 1
            have e1 := HB1.out.cell 1
            have b2 := HB0.out.cell 2
            have e2 := HB1.out.cell 2
            have b3 := HB0.out.cell 3
            have e3 := HB1.out.cell 3
            have b4 := HB0.out.cell 4
            have e4 := HB1.out.cell 4
            have b5 := HB0.out.cell 5
            have e5 := HB1.out.cell 5
            have b6 := HB0.out.cell 6
            have e6 := HB1.out.cell 6
            have MC := may9_walk (.mk kd zD [x0, x1]) _ 1 w7 HRN.out (by rw [two_count]; have := HC0.out; have := HC1.out; omega) (HTB.out.kept HK.out) (HMB.out.on HK.out)
            rw [HJ3.out kd hkd] at MC
            clear HRN
            go_wp2_with fail
            refine MC.mono ?_
            rintro e w9 ⟨rfl, hk9⟩
            have HU := Lib.hid (hk9.box HU.out (fun h => h))
            have HB0 := Lib.hid (hk9.box HB0.out (fun h => h)); have HB1 := Lib.hid (hk9.box HB1.out (fun h => h)); have HK := Lib.hid (HK.out.trans hk9 (fun _ _ h => h)); clear hk9
            clear MC
            clear b0 e0 b1 e1 b2 e2 b3 e3 b4 e4 b5 e5 b6 e6
            have b0 := HB0.out.cell 0
            have e0 := HB1.out.cell 0
            have b1 := HB0.out.cell 1
            have e1 := HB1.out.cell 1
            have b2 := HB0.out.cell 2
            have e2 := HB1.out.cell 2
            have b3 := HB0.out.cell 3
            have e3 := HB1.out.cell 3
            have b4 := HB0.out.cell 4
            have e4 := HB1.out.cell 4
            have b5 := HB0.out.cell 5
            have e5 := HB1.out.cell 5
            have b6 := HB0.out.cell 6
            have e6 := HB1.out.cell 6
            clear b0 e0 b1 e1 b2 e2 b3 e3 b4 e4 b5 e5 b6 e6
            go_wp2_with fail
            go_roundw
            case rel => first | exact ⟨i + 1, by go_num, by omega, HU, HB0, HB1, HK⟩ | ((repeat apply Exists.intro); refine ⟨?_, rfl⟩; exact ⟨i + 1, by go_num, by omega, HU, HB0, HB1, HK⟩)
            case measure => first | (simp [intOf]; done) | (simp [intOf]; omega)
          · obtain rfl : i = 3 := by omega
            clear hlt hi
            have HAN := Lib.hid (show mayS (.mk 6 zD [x0, x1]) 1 = 21 by rw [HW.out, if_neg (by rw [HMW.out]; decide), HMW.out])
            go_wp2_with fail
            refine (rich9_walk 6 (.slice (some ⟨wr.heap.size, 0, none⟩) 2 2) ⟨_, _, _, rfl⟩ _).mono ?_
            rintro e w7 ⟨rfl, hk7⟩
            have HRN := Lib.hid (two_new (k := 6) (RichS.kept HK.out _ _ HR0.out) (RichS.kept HK.out _ _ HR1.out) w7 hk7 (by decide))
            have hkA : Kept (fun _ => False) wr (wr.alloc (.cells ((richA x0.kind x0.dep (.slice ao0 x0.args.length cp0)) ++ (richA x1.kind x1.dep (.slice ao1 x1.args.length cp1))) 29)) := (Kept.refl _ wr).alloc _
            have hk8 := Kept.trans hkA hk7 (fun _ _ h => h)
            clear hk7 hkA
            have HB0 := Lib.hid (hk8.box HB0.out (fun h => h)); have HB1 := Lib.hid (hk8.box HB1.out (fun h => h)); have HK := Lib.hid (HK.out.trans hk8 (fun _ _ h => h)); clear hk8
            clear b0 e0 b1 e1 b2 e2 b3 e3 b4 e4 b5 e5 b6 e6
            have b0 := HB0.out.cell 0
            have e0 := HB1.out.cell 0
            have b1 := HB0.out.cell 1
            have e1 := HB1.out.cell 1
            have b2 := HB0.out.cell 2
            have e2 := HB1.out.cell 2
            have b3 := HB0.out.cell 3
            have e3 := HB1.out.cell 3
            have b4 := HB0.out.cell 4
            have e4 := HB1.out.cell 4
            have b5 := HB0.out.cell 5
            have e5 := HB1.out.cell 5
            have b6 := HB0.out.cell 6
            have e6 := HB1.out.cell 6
            have MC := may9_walk (.mk 6 zD [x0, x1]) _ 1 w7 HRN.out (by rw [two_count]; have := HC0.out; have := HC1.out; omega) (HTB.out.kept HK.out) (HMB.out.on HK.out)
            rw [HAN.out] at MC
            clear HRN
            go_wp2_with fail
            refine MC.mono ?_
            rintro e w9 ⟨rfl, hk9⟩
            have HB0 := Lib.hid (hk9.box HB0.out (fun h => h)); have HB1 := Lib.hid (hk9.box HB1.out (fun h => h)); have HK := Lib.hid (HK.out.trans hk9 (fun _ _ h => h)); clear hk9
            clear MC
            clear b0 e0 b1 e1 b2 e2 b3 e3 b4 e4 b5 e5 b6 e6
            have b0 := HB0.out.cell 0
            have e0 := HB1.out.cell 0
            have b1 := HB0.out.cell 1
            have e1 := HB1.out.cell 1
            have b2 := HB0.out.cell 2
            have e2 := HB1.out.cell 2
            have b3 := HB0.out.cell 3
            have e3 := HB1.out.cell 3
            have b4 := HB0.out.cell 4
            have e4 := HB1.out.cell 4
            have b5 := HB0.out.cell 5
            have e5 := HB1.out.cell 5
            have b6 := HB0.out.cell 6
            have e6 := HB1.out.cell 6
            go_wp2_with fail
            go_ret
            exact ⟨rfl, HK.out⟩
      have hI9 : ¬ (8 : Int) ≤ (deep x1 : Int) := by omega
      have HMW := Lib.hid (show wantJ x0 x1 = 0 by unfold wantJ; rw [if_neg h24, if_neg (by omega)])
      clear h24 hd0 hd1
      obtain ⟨w6, hw6⟩ : ∃ w6, w6 = w11 := ⟨_, rfl⟩
      subst hw6
      have HJ3 := Lib.hid (fun (k : Nat) (hk : k = 3 ∨ k = 2 ∨ k = 5) => (HJ.out k hk).trans HMW.out)
      go_wp2_with fail
      have HU := Lib.hid (show Box (w6.alloc (.cells #[.int .u8 3, .int .u8 2, .int .u8 5] 5)) w6.heap.size 5 #[.int .u8 3, .int .u8 2, .int .u8 5] from Box.made w6 _ _)
      have hkU : Kept (fun _ => False) w6 (w6.alloc (.cells #[.int .u8 3, .int .u8 2, .int .u8 5] 5)) := (Kept.refl _ w6).alloc _
      have HB0 := Lib.hid (hkU.box HB0.out (fun h => h)); have HB1 := Lib.hid (hkU.box HB1.out (fun h => h)); have HK := Lib.hid (HK.out.trans hkU (fun _ _ h => h)); clear hkU
      generalize w6.alloc (.cells #[.int .u8 3, .int .u8 2, .int .u8 5] 5) = wu at *
      generalize w6.heap.size = gu at *
      clear b0 e0 b1 e1 b2 e2 b3 e3 b4 e4 b5 e5 b6 e6
      go_loopw [45] (fun v45 wr => ∃ i : Nat, v45 = .int .i64 (i : Int) ∧ i ≤ 3 ∧ Hid (Box wr gu 5 #[.int .u8 3, .int .u8 2, .int .u8 5]) ∧ Hid (Box wr w.heap.size 29 (richA x0.kind x0.dep (.slice ao0 x0.args.length cp0))) ∧ Hid (Box wr (w.heap.size + 1) 29 (richA x1.kind x1.dep (.slice ao1 x1.args.length cp1))) ∧ Hid (Kept (fun _ => False) w wr)) (fun v45 _ => 3 - (intOf v45).toNat)
      case atStart => exact ⟨0, rfl, Nat.zero_le _, HU, HB0, HB1, HK⟩
      case round =>
        repeat clear HB0
        repeat clear HB1
        repeat clear HK
        repeat clear HU
        obtain ⟨i, rfl, hi, HU, HB0, HB1, HK⟩ := hrel
        rename World => wr
        have b0 := HB0.out.cell 0
        have e0 := HB1.out.cell 0
        have b1 := HB0.out.cell 1
        have e1 := HB1.out.cell 1
        have b2 := HB0.out.cell 2
        have e2 := HB1.out.cell 2
        have b3 := HB0.out.cell 3
        have e3 := HB1.out.cell 3
        have b4 := HB0.out.cell 4
        have e4 := HB1.out.cell 4
        have b5 := HB0.out.cell 5
        have e5 := HB1.out.cell 5
        have b6 := HB0.out.cell 6
        have e6 := HB1.out.cell 6
        by_cases hlt : i < 3
        · obtain ⟨kd, hkd, u0⟩ : ∃ kd : Nat, (kd = 3 ∨ kd = 2 ∨ kd = 5) ∧ wr.cell? ⟨gu, i, none⟩ = some (.int .u8 (kd : Int)) := by
            have hi3 : i = 0 ∨ i = 1 ∨ i = 2 := by omega
            rcases hi3 with rfl | rfl | rfl
            · exact ⟨3, .inl rfl, HU.out.cell 0⟩
            · exact ⟨2, .inr (.inl rfl), HU.out.cell 1⟩
            · exact ⟨5, .inr (.inr rfl), HU.out.cell 2⟩
          have hi0 : (0 : Int) ≤ (i : Int) := by omega
          have hiI : (i : Int) < 3 := by omega
          go_wp2_with fail
          refine (rich9_walk kd (.slice (some ⟨wr.heap.size, 0, none⟩) 2 2) ⟨_, _, _, rfl⟩ _).mono ?_
          rintro e w7 ⟨rfl, hk7⟩
          have HRN := Lib.hid (two_new (k := kd) (RichS.kept HK.out _ _ HR0.out) (RichS.kept HK.out _ _ HR1.out) w7 hk7 (by omega))
          have hkA : Kept (fun _ => False) wr (wr.alloc (.cells ((richA x0.kind x0.dep (.slice ao0 x0.args.length cp0)) ++ (richA x1.kind x1.dep (.slice ao1 x1.args.length cp1))) 29)) := (Kept.refl _ wr).alloc _
          have hk8 := Kept.trans hkA hk7 (fun _ _ h => h)
          have HU := Lib.hid (hk8.box HU.out (fun h => h))
          clear hk7 hkA u0
          have HB0 := Lib.hid (hk8.box HB0.out (fun h => h)); have HB1 := Lib.hid (hk8.box HB1.out (fun h => h)); have HK := Lib.hid (HK.out.trans hk8 (fun _ _ h => h)); clear hk8
          clear b0 e0 b1 e1 b2 e2 b3 e3 b4 e4 b5 e5 b6 e6
          have b0 := HB0.out.cell 0
          have e0 := HB1.out.cell 0
          have b1 := HB0.out.cell 1
          have e1 := HB1.out.cell 1
          have b2 := HB0.out.cell 2
          have e2 := HB1.out.cell 2
          have b3 := HB0.out.cell 3
          have e3 := HB1.out.cell 3
          have b4 := HB0.out.cell 4
          have e4 := HB1.out.cell 4
          have b5 := HB0.out.cell 5
          have e5 := HB1.out.cell 5
          have b6 := HB0.out.cell 6
          have e6 := HB1.out.cell 6
          have MC := may9_walk (.mk kd zD [x0, x1]) _ 1 w7 HRN.out (by rw [two_count]; have := HC0.out; have := HC1.out; omega) (HTB.out.kept HK.out) (HMB.out.on HK.out)
          rw [HJ3.out kd hkd] at MC
          clear HRN
          go_wp2_with fail
          refine MC.mono ?_
          rintro e w9 ⟨rfl, hk9⟩
          have HU := Lib.hid (hk9.box HU.out (fun h => h))
          have HB0 := Lib.hid (hk9.box HB0.out (fun h => h)); have HB1 := Lib.hid (hk9.box HB1.out (fun h => h)); have HK := Lib.hid (HK.out.trans hk9 (fun _ _ h => h)); clear hk9
          clear MC
          clear b0 e0 b1 e1 b2 e2 b3 e3 b4 e4 b5 e5 b6 e6
          have b0 := HB0.out.cell 0
          have e0 := HB1.out.cell 0
          have b1 := HB0.out.cell 1
          have e1 := HB1.out.cell 1
          have b2 := HB0.out.cell 2
          have e2 := HB1.out.cell 2
          have b3 := HB0.out.cell 3
          have e3 := HB1.out.cell 3
          have b4 := HB0.out.cell 4
          have e4 := HB1.out.cell 4
          have b5 := HB0.out.cell 5
          have e5 := HB1.out.cell 5
          have b6 := HB0.out.cell 6
          have e6 := HB1.out.cell 6
          clear b0 e0 b1 e1 b2 e2 b3 e3 b4 e4 b5 e5 b6 e6
          go_wp2_with fail
          go_roundw
          case rel => first | exact ⟨i + 1, by go_num, by omega, HU, HB0, HB1, HK⟩ | ((repeat apply Exists.intro); refine ⟨?_, rfl⟩; exact ⟨i + 1, by go_num, by omega, HU, HB0, HB1, HK⟩)
          case measure => first | (simp [intOf]; done) | (simp [intOf]; omega)
        · obtain rfl : i = 3 := by omega
          clear hlt hi
          obtain ⟨ma, hm0⟩ : ∃ z, z = mayS x0 3 := ⟨_, rfl⟩
          have MC := may9_walk x0 _ 3 _ (RichS.kept HK.out _ _ HR0.out) (by have := HC0.out; omega) (HTB.out.kept HK.out) (HMB.out.on HK.out)
          rw [← hm0] at MC
          go_wp2_with fail
          refine MC.mono ?_
          rintro e w20 ⟨rfl, hk20⟩
          have HB0 := Lib.hid (hk20.box HB0.out (fun h => h)); have HB1 := Lib.hid (hk20.box HB1.out (fun h => h)); have HK := Lib.hid (HK.out.trans hk20 (fun _ _ h => h)); clear hk20
          clear MC
          clear b0 e0 b1 e1 b2 e2 b3 e3 b4 e4 b5 e5 b6 e6
          have b0 := HB0.out.cell 0
          have e0 := HB1.out.cell 0
          have b1 := HB0.out.cell 1
          have e1 := HB1.out.cell 1
          have b2 := HB0.out.cell 2
          have e2 := HB1.out.cell 2
          have b3 := HB0.out.cell 3
          have e3 := HB1.out.cell 3
          have b4 := HB0.out.cell 4
          have e4 := HB1.out.cell 4
          have b5 := HB0.out.cell 5
          have e5 := HB1.out.cell 5
          have b6 := HB0.out.cell 6
          have e6 := HB1.out.cell 6
          by_cases ga : ma = 0
          rotate_left
          · have gb : (ma != 0) = true := by simpa using ga
            have HAN := Lib.hid (show mayS (.mk 6 zD [x0, x1]) 1 = 4 by rw [HW.out, if_pos HMW.out, if_neg (by rw [← hm0]; exact fun h => ga h.1)])
            clear ga hm0
            obtain ⟨wr, hwr⟩ : ∃ wr, wr = w20 := ⟨_, rfl⟩
            subst hwr
            go_wp2_with fail
            refine (rich9_walk 6 (.slice (some ⟨wr.heap.size, 0, none⟩) 2 2) ⟨_, _, _, rfl⟩ _).mono ?_
            rintro e w7 ⟨rfl, hk7⟩
            have HRN := Lib.hid (two_new (k := 6) (RichS.kept HK.out _ _ HR0.out) (RichS.kept HK.out _ _ HR1.out) w7 hk7 (by decide))
            have hkA : Kept (fun _ => False) wr (wr.alloc (.cells ((richA x0.kind x0.dep (.slice ao0 x0.args.length cp0)) ++ (richA x1.kind x1.dep (.slice ao1 x1.args.length cp1))) 29)) := (Kept.refl _ wr).alloc _
            have hk8 := Kept.trans hkA hk7 (fun _ _ h => h)
            clear hk7 hkA
            have HB0 := Lib.hid (hk8.box HB0.out (fun h => h)); have HB1 := Lib.hid (hk8.box HB1.out (fun h => h)); have HK := Lib.hid (HK.out.trans hk8 (fun _ _ h => h)); clear hk8
            clear b0 e0 b1 e1 b2 e2 b3 e3 b4 e4 b5 e5 b6 e6
            have b0 := HB0.out.cell 0
            have e0 := HB1.out.cell 0
            have b1 := HB0.out.cell 1
            have e1 := HB1.out.cell 1
            have b2 := HB0.out.cell 2
            have e2 := HB1.out.cell 2
            have b3 := HB0.out.cell 3
            have e3 := HB1.out.cell 3
            have b4 := HB0.out.cell 4
            have e4 := HB1.out.cell 4
            have b5 := HB0.out.cell 5
            have e5 := HB1.out.cell 5
            have b6 := HB0.out.cell 6
            have e6 := HB1.out.cell 6
            have MC := may9_walk (.mk 6 zD [x0, x1]) _ 1 w7 HRN.out (by rw [two_count]; have := HC0.out; have := HC1.out; omega) (HTB.out.kept HK.out) (HMB.out.on HK.out)
            rw [HAN.out] at MC
            clear HRN
            go_wp2_with fail
            refine MC.mono ?_
            rintro e w9 ⟨rfl, hk9⟩
            have HB0 := Lib.hid (hk9.box HB0.out (fun h => h)); have HB1 := Lib.hid (hk9.box HB1.out (fun h => h)); have HK := Lib.hid (HK.out.trans hk9 (fun _ _ h => h)); clear hk9
            clear MC
            clear b0 e0 b1 e1 b2 e2 b3 e3 b4 e4 b5 e5 b6 e6
            have b0 := HB0.out.cell 0
            have e0 := HB1.out.cell 0
            have b1 := HB0.out.cell 1
            have e1 := HB1.out.cell 1
            have b2 := HB0.out.cell 2
            have e2 := HB1.out.cell 2
            have b3 := HB0.out.cell 3
            have e3 := HB1.out.cell 3
            have b4 := HB0.out.cell 4
            have e4 := HB1.out.cell 4
            have b5 := HB0.out.cell 5
            have e5 := HB1.out.cell 5
            have b6 := HB0.out.cell 6
            have e6 := HB1.out.cell 6
            go_wp2_with fail
            go_ret
            exact ⟨rfl, HK.out⟩
          have gz : (ma != 0) = false := by simp [ga]
          obtain ⟨mb, hm1⟩ : ∃ z, z = mayS x1 3 := ⟨_, rfl⟩
          have MC := may9_walk x1 _ 3 _ (RichS.kept HK.out _ _ HR1.out) (by have := HC1.out; omega) (HTB.out.kept HK.out) (HMB.out.on HK.out)
          rw [← hm1] at MC
          go_wp2_with fail
          refine MC.mono ?_
          rintro e w21 ⟨rfl, hk21⟩
          have HB0 := Lib.hid (hk21.box HB0.out (fun h => h)); have HB1 := Lib.hid (hk21.box HB1.out (fun h => h)); have HK := Lib.hid (HK.out.trans hk21 (fun _ _ h => h)); clear hk21
          clear MC
          clear b0 e0 b1 e1 b2 e2 b3 e3 b4 e4 b5 e5 b6 e6
          have b0 := HB0.out.cell 0
          have e0 := HB1.out.cell 0
          have b1 := HB0.out.cell 1
          have e1 := HB1.out.cell 1
          have b2 := HB0.out.cell 2
          have e2 := HB1.out.cell 2
          have b3 := HB0.out.cell 3
          have e3 := HB1.out.cell 3
          have b4 := HB0.out.cell 4
          have e4 := HB1.out.cell 4
          have b5 := HB0.out.cell 5
          have e5 := HB1.out.cell 5
          have b6 := HB0.out.cell 6
          have e6 := HB1.out.cell 6
          by_cases gc : mb = 0
          rotate_left
          · have gb : (mb != 0) = true := by simpa using gc
            have HAN := Lib.hid (show mayS (.mk 6 zD [x0, x1]) 1 = 4 by rw [HW.out, if_pos HMW.out, if_neg (by rw [← hm1]; exact fun h => gc h.2)])
            clear gc hm1 hm0
            obtain ⟨wr, hwr⟩ : ∃ wr, wr = w21 := ⟨_, rfl⟩
            subst hwr
            go_wp2_with fail
            refine (rich9_walk 6 (.slice (some ⟨wr.heap.size, 0, none⟩) 2 2) ⟨_, _, _, rfl⟩ _).mono ?_
            rintro e w7 ⟨rfl, hk7⟩
            have HRN := Lib.hid (two_new (k := 6) (RichS.kept HK.out _ _ HR0.out) (RichS.kept HK.out _ _ HR1.out) w7 hk7 (by decide))
            have hkA : Kept (fun _ => False) wr (wr.alloc (.cells ((richA x0.kind x0.dep (.slice ao0 x0.args.length cp0)) ++ (richA x1.kind x1.dep (.slice ao1 x1.args.length cp1))) 29)) := (Kept.refl _ wr).alloc _
            have hk8 := Kept.trans hkA hk7 (fun _ _ h => h)
            clear hk7 hkA
            have HB0 := Lib.hid (hk8.box HB0.out (fun h => h)); have HB1 := Lib.hid (hk8.box HB1.out (fun h => h)); have HK := Lib.hid (HK.out.trans hk8 (fun _ _ h => h)); clear hk8
            clear b0 e0 b1 e1 b2 e2 b3 e3 b4 e4 b5 e5 b6 e6
            have b0 := HB0.out.cell 0
            have e0 := HB1.out.cell 0
            have b1 := HB0.out.cell 1
            have e1 := HB1.out.cell 1
            have b2 := HB0.out.cell 2
            have e2 := HB1.out.cell 2
            have b3 := HB0.out.cell 3
            have e3 := HB1.out.cell 3
            have b4 := HB0.out.cell 4
            have e4 := HB1.out.cell 4
            have b5 := HB0.out.cell 5
            have e5 := HB1.out.cell 5
            have b6 := HB0.out.cell 6
            have e6 := HB1.out.cell 6
            have MC := may9_walk (.mk 6 zD [x0, x1]) _ 1 w7 HRN.out (by rw [two_count]; have := HC0.out; have := HC1.out; omega) (HTB.out.kept HK.out) (HMB.out.on HK.out)
            rw [HAN.out] at MC
            clear HRN
            go_wp2_with fail
            refine MC.mono ?_
            rintro e w9 ⟨rfl, hk9⟩
            have HB0 := Lib.hid (hk9.box HB0.out (fun h => h)); have HB1 := Lib.hid (hk9.box HB1.out (fun h => h)); have HK := Lib.hid (HK.out.trans hk9 (fun _ _ h => h)); clear hk9
            clear MC
            clear b0 e0 b1 e1 b2 e2 b3 e3 b4 e4 b5 e5 b6 e6
            have b0 := HB0.out.cell 0
            have e0 := HB1.out.cell 0
            have b1 := HB0.out.cell 1
            have e1 := HB1.out.cell 1
            have b2 := HB0.out.cell 2
            have e2 := HB1.out.cell 2
            have b3 := HB0.out.cell 3
            have e3 := HB1.out.cell 3
            have b4 := HB0.out.cell 4
            have e4 := HB1.out.cell 4
            have b5 := HB0.out.cell 5
            have e5 := HB1.out.cell 5
            have b6 := HB0.out.cell 6
            have e6 := HB1.out.cell 6
            go_wp2_with fail
            go_ret
            exact ⟨rfl, HK.out⟩
          have gb : (mb != 0) = false := by simp [gc]
          have HAN := Lib.hid (show mayS (.mk 6 zD [x0, x1]) 1 = 0 by rw [HW.out, if_pos HMW.out, if_pos ⟨by rw [← hm0]; exact ga, by rw [← hm1]; exact gc⟩])
          clear gc ga hm1 hm0
          obtain ⟨wr, hwr⟩ : ∃ wr, wr = w21 := ⟨_, rfl⟩
          subst hwr
          go_wp2_with fail
          refine (rich9_walk 6 (.slice (some ⟨wr.heap.size, 0, none⟩) 2 2) ⟨_, _, _, rfl⟩ _).mono ?_
          rintro e w7 ⟨rfl, hk7⟩
          have HRN := Lib.hid (two_new (k := 6) (RichS.kept HK.out _ _ HR0.out) (RichS.kept HK.out _ _ HR1.out) w7 hk7 (by decide))
          have hkA : Kept (fun _ => False) wr (wr.alloc (.cells ((richA x0.kind x0.dep (.slice ao0 x0.args.length cp0)) ++ (richA x1.kind x1.dep (.slice ao1 x1.args.length cp1))) 29)) := (Kept.refl _ wr).alloc _
          have hk8 := Kept.trans hkA hk7 (fun _ _ h => h)
          clear hk7 hkA
          have HB0 := Lib.hid (hk8.box HB0.out (fun h => h)); have HB1 := Lib.hid (hk8.box HB1.out (fun h => h)); have HK := Lib.hid (HK.out.trans hk8 (fun _ _ h => h)); clear hk8
          clear b0 e0 b1 e1 b2 e2 b3 e3 b4 e4 b5 e5 b6 e6
          have b0 := HB0.out.cell 0
          have e0 := HB1.out.cell 0
          have b1 := HB0.out.cell 1
          have e1 := HB1.out.cell 1
          have b2 := HB0.out.cell 2
          have e2 := HB1.out.cell 2
          have b3 := HB0.out.cell 3
          have e3 := HB1.out.cell 3
          have b4 := HB0.out.cell 4
          have e4 := HB1.out.cell 4
          have b5 := HB0.out.cell 5
          have e5 := HB1.out.cell 5
          have b6 := HB0.out.cell 6
          have e6 := HB1.out.cell 6
          have MC := may9_walk (.mk 6 zD [x0, x1]) _ 1 w7 HRN.out (by rw [two_count]; have := HC0.out; have := HC1.out; omega) (HTB.out.kept HK.out) (HMB.out.on HK.out)
          rw [HAN.out] at MC
          clear HRN
          go_wp2_with fail
          refine MC.mono ?_
          rintro e w9 ⟨rfl, hk9⟩
          have HB0 := Lib.hid (hk9.box HB0.out (fun h => h)); have HB1 := Lib.hid (hk9.box HB1.out (fun h => h)); have HK := Lib.hid (HK.out.trans hk9 (fun _ _ h => h)); clear hk9
          clear MC
          clear b0 e0 b1 e1 b2 e2 b3 e3 b4 e4 b5 e5 b6 e6
          have b0 := HB0.out.cell 0
          have e0 := HB1.out.cell 0
          have b1 := HB0.out.cell 1
          have e1 := HB1.out.cell 1
          have b2 := HB0.out.cell 2
          have e2 := HB1.out.cell 2
          have b3 := HB0.out.cell 3
          have e3 := HB1.out.cell 3
          have b4 := HB0.out.cell 4
          have e4 := HB1.out.cell 4
          have b5 := HB0.out.cell 5
          have e5 := HB1.out.cell 5
          have b6 := HB0.out.cell 6
          have e6 := HB1.out.cell 6
          go_wp2_with fail
          go_ret
          exact ⟨rfl, HK.out⟩
set_option maxRecDepth 100000 in
theorem shapejoined_walk (w : World) (hTB : TabW9 w) (hMB : MayP9 w) (x0 x1 : R) (v0 v1 : Value) (hr0 : RichS w x0 v0) (hr1 : RichS w x1 v1) :
    Calls Tryd.prog 6 #[v0, v1] w fun e w' => e = .returned (.bool true) ∧ Kept (fun _ => False) w w' := by
  obtain ⟨a0, c0, rfl⟩ := rich_formX hr0
  obtain ⟨a1, c1, rfl⟩ := rich_formX hr1
  exact shapejoined_core w hTB hMB x0 x1 a0 a1 c0 c1 hr0 hr1
end Go.Proofs.YtndakcognjaeoaaDoor
