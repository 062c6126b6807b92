/-
  What a row of the program's table asks of a part (layer 9). Whether each part of a rich dependency is as its row of the table asks; how deep it is; May (layer 9). The walk over the program's Depth (layer 9). The walk over the program's May (layer 9). Conditions: as each theorem states.
-/
import Derived.Test.YtpdoeapjdifmbaaGreatDoorK12
import Derived.Test.YtpdoeapjdifmbaaGreatDoorK11
import Derived.Test.YtpdoeapjdifmbaaGreatDoorK04
import Derived.Test.YtpdoeapjdifmbaaGreatDoorK01
import Derived.Test.YtpdoeapjdifmbaaGreatDoorRows
import Derived.Handy
import Derived.Lib.Hide
import Derived.LoopN
import Derived.Deep.QuietTactic
namespace Go.Proofs.YtpdoeapjdifmbaaGreatDoor
open Go.RowKit Ver Evr Span Dep Rich

set_option maxRecDepth 100000 in
set_option maxHeartbeats 2000000 in
theorem rowMay_walk (nd lo : Bool) (le mo : Int) (la : Nat) (t : RT) (wh : Nat) (al : Bool) (hd : t.dep.op < 256) (w : World) (hM : MayP9 w) :
    Calls Tryz.prog 204 #[.agg #[.bool nd, .int .i64 le, .int .i64 mo, .int .u8 (la : Int), .bool lo], t.val, .int .u8 (wh : Int), .bool al] w fun e w' => e = .returned (.bool (decide ((wh : Int) ≤ (la : Int)) && (lo || !al) && decide (le ≤ (t.args.length : Int)) && decide ((t.args.length : Int) ≤ mo) && (if nd = true then mayD t.dep else noD t.dep))) ∧ Kept (fun _ => False) w w' := by
  have hBR := (Box.made w 209 #[.bool nd, .int .i64 le, .int .i64 mo, .int .u8 (la : Int), .bool lo]).after_alloc (.cells t.arr 62)
  have hBT := Box.made (w.alloc (.cells #[.bool nd, .int .i64 le, .int .i64 mo, .int .u8 (la : Int), .bool lo] 209)) 62 t.arr
  simp only [World.size_alloc] at hBT
  have r0 := hBR.cell 0
  have r1 := hBR.cell 1
  have r2 := hBR.cell 2
  have r3 := hBR.cell 3
  have r4 := hBR.cell 4
  have a0 := hBT.cell 0
  have a1 := hBT.cell 1
  have a2 := hBT.cell 2
  have a3 := hBT.cell 3
  have a4 := hBT.cell 4
  have a5 := hBT.cell 5
  have a6 := hBT.cell 6
  have hkA : Kept (fun _ => False) w ((w.alloc (.cells #[.bool nd, .int .i64 le, .int .i64 mo, .int .u8 (la : Int), .bool lo] 209)).alloc (.cells t.arr 62)) := ((Kept.refl _ w).alloc _).alloc _
  have HK := Lib.hid hkA
  have MC := mayDep_walk nd lo le mo la t.dep hd _ (hM.on hkA)
  clear hBR hBT hkA hM
  generalize (if nd = true then mayD t.dep else noD t.dep) = c at *
  by_cases h1 : (wh : Int) ≤ (la : Int)
  · cases lo with
    | true =>
      by_cases h3 : le ≤ (t.args.length : Int)
      · by_cases h4 : (t.args.length : Int) ≤ mo
        · go_enter Tryz.func204, Tryz.ntmps204
          go_wp2_with (first
            | (go_at_call 222; refine MC.mono ?_; rintro e w1 ⟨rfl, hk1⟩)
            | fail)
          go_ret
          exact ⟨by simp [h1, h3, h4], HK.out.trans hk1 (fun _ _ h => h)⟩
        · go_enter Tryz.func204, Tryz.ntmps204
          go_wp2_with (first
            | (go_at_call 222; refine MC.mono ?_; rintro e w1 ⟨rfl, hk1⟩)
            | fail)
          go_ret
          exact ⟨by simp; intros; omega, HK.out⟩
      · go_enter Tryz.func204, Tryz.ntmps204
        go_wp2_with (first
          | (go_at_call 222; refine MC.mono ?_; rintro e w1 ⟨rfl, hk1⟩)
          | fail)
        go_ret
        exact ⟨by simp; intros; omega, HK.out⟩
    | false =>
      cases al with
      | true =>
        go_enter Tryz.func204, Tryz.ntmps204
        go_wp2_with (first
          | (go_at_call 222; refine MC.mono ?_; rintro e w1 ⟨rfl, hk1⟩)
          | fail)
        go_ret
        exact ⟨by simp, HK.out⟩
      | false =>
        by_cases h3 : le ≤ (t.args.length : Int)
        · by_cases h4 : (t.args.length : Int) ≤ mo
          · go_enter Tryz.func204, Tryz.ntmps204
            go_wp2_with (first
              | (go_at_call 222; refine MC.mono ?_; rintro e w1 ⟨rfl, hk1⟩)
              | fail)
            go_ret
            exact ⟨by simp [h1, h3, h4], HK.out.trans hk1 (fun _ _ h => h)⟩
          · go_enter Tryz.func204, Tryz.ntmps204
            go_wp2_with (first
              | (go_at_call 222; refine MC.mono ?_; rintro e w1 ⟨rfl, hk1⟩)
              | fail)
            go_ret
            exact ⟨by simp; intros; omega, HK.out⟩
        · go_enter Tryz.func204, Tryz.ntmps204
          go_wp2_with (first
            | (go_at_call 222; refine MC.mono ?_; rintro e w1 ⟨rfl, hk1⟩)
            | fail)
          go_ret
          exact ⟨by simp; intros; omega, HK.out⟩
  · go_enter Tryz.func204, Tryz.ntmps204
    go_wp2_with (first
      | (go_at_call 222; refine MC.mono ?_; rintro e w1 ⟨rfl, hk1⟩)
      | fail)
    go_ret
    exact ⟨by simp; intros; omega, HK.out⟩
end Go.Proofs.YtpdoeapjdifmbaaGreatDoor

namespace Go.Proofs.YtpdoeapjdifmbaaGreatDoor
open Go.RowKit Ver Evr Span Dep Rich Go.Shelf
attribute [local go_sem] Oper.semAt_some

theorem rowPart_walk (t : RT) (wh : Nat) (al : Bool) (hd : t.dep.op < 256) (w : World) (hM : MayP9 w) :
    Calls Tryz.prog 204 #[.agg (rowA t.kind), t.val, .int .u8 (wh : Int), .bool al] w fun e w' => e = .returned (.bool (rowS wh (t.er, al))) ∧ Kept (fun _ => False) w w' := by
  refine (rowMay_walk (decide (t.kind = 1)) (loneK t.kind) (leastK t.kind : Int) (mostS t.kind : Int) (Rich.lastK t.kind) t wh al hd w hM).mono fun e w' h => ⟨h.1.trans ?_, h.2⟩
  unfold rowS
  rw [er_kind, er_dep, er_args]
  congr 2
  have i1 : decide ((wh : Int) ≤ (Rich.lastK t.kind : Int)) = decide (wh ≤ Rich.lastK t.kind) := by rw [Bool.eq_iff_iff]; simp
  have i2 : decide ((leastK t.kind : Int) ≤ (t.args.length : Int)) = decide (leastK t.kind ≤ t.args.length) := by rw [Bool.eq_iff_iff]; simp
  have i3 : decide ((t.args.length : Int) ≤ (mostS t.kind : Int)) = decide (t.args.length ≤ mostS t.kind) := by rw [Bool.eq_iff_iff]; simp
  rw [i1, i2, i3]
  simp
theorem parts_ok : ∀ (t : RT) (al : Bool) (n : Nat) (w : World), RTS n w t → ∀ p ∈ itemsT al t, p.1.kind < 256 ∧ p.1.dep.op < 256 := by
  refine RT.ind fun k d ao cp ts ih al n w h p hp => ?_
  rw [RTS] at h
  rw [itemsT] at hp
  rcases List.mem_cons.1 hp with rfl | hp
  · exact ⟨h.1, h.2.1⟩
  · have key : ∀ (l : List RT) (i : Nat), (∀ y ∈ l, y ∈ ts) → RTL n w ao i l → p ∈ itemsTL (alS k al) l → p.1.kind < 256 ∧ p.1.dep.op < 256 := by
      intro l
      induction l with
      | nil => intro i _ _ hp; rw [itemsTL] at hp; simp at hp
      | cons y l ihl =>
        intro i hm hl hp
        rw [RTL] at hl
        rw [itemsTL] at hp
        rcases List.mem_append.1 hp with hp | hp
        · obtain ⟨_, _, _, _, _, hy, _⟩ := hl.1
          exact ih y (hm y (by simp)) _ n w hy p hp
        · exact ihl (i + 1) (fun z hz => hm z (by simp [hz])) hl.2 hp
    exact key ts 0 (fun _ h => h) h.2.2 hp

theorem result_formed (W : World) (g : Nat) (b : Bool) (tmps : Array Value) (h1 : tmps[4]?.getD undef = .pointer (some ⟨g, 0, none⟩)) (h2 : W.cell? ⟨g, 0, none⟩ = some (.bool b)) :
    (results Tryz.f186 tmps).run Tryz.prog W = .ok (.bool b) W := by
  simp [results, Tryz.results186, go_sem, h1, h2]
set_option maxRecDepth 100000 in
set_option maxHeartbeats 2000000 in
theorem formed_t (t : RT) (wh : Nat) (w : World) (hS : RTS w.heap.size w t) (hc : count t.er ≤ 1000000) (hTB : TabW9 w) (hMB : MayP9 w) :
    Calls Tryz.prog 186 #[t.val, .int .u8 (wh : Int)] w fun e w' => e = .returned (.bool ((items false t.er).all (rowS wh))) ∧ Kept (fun _ => False) w w' := by
  have HOK := Lib.hid (parts_ok t false _ w hS)
  have hmo : Tryz.prog.follows .mixedOrders = true := by kernel_rfl
  have HF := Lib.hid (few_of_count t hc)
  have HL := Lib.hid (itemsT_len t)
  have HC := Lib.hid hc
  have hBA := (Box.after_alloc (Box.after_alloc (Box.made w 62 t.arr) (.cells #[.int .u8 (wh : Int)] 5)) (.cells #[.bool false] 4))
  have a0 := hBA.cell 0
  have a1 := hBA.cell 1
  have a2 := hBA.cell 2
  have a3 := hBA.cell 3
  have a4 := hBA.cell 4
  have a5 := hBA.cell 5
  have a6 := hBA.cell 6
  have hkA : Kept (fun _ => False) w ((((w.alloc (.cells t.arr 62)).alloc (.cells #[.int .u8 (wh : Int)] 5)).alloc (.cells #[.bool false] 4)).alloc (.cells t.arr 62)) := (((((Kept.refl (fun _ => False) w).alloc (.cells t.arr 62)).alloc (.cells #[.int .u8 (wh : Int)] 5)).alloc (.cells #[.bool false] 4)).alloc (.cells t.arr 62))
  have hN := (((Boxed.new (w.alloc (.cells t.arr 62)) 5 (.int .u8 (wh : Int))).alloc (.cells #[.bool false] 4)).alloc (.cells t.arr 62))
  have hQ := ((Boxed.new ((w.alloc (.cells t.arr 62)).alloc (.cells #[.int .u8 (wh : Int)] 5)) 4 (.bool false)).alloc (.cells t.arr 62))
  have hP := Box.made (((w.alloc (.cells t.arr 62)).alloc (.cells #[.int .u8 (wh : Int)] 5)).alloc (.cells #[.bool false] 4)) 62 t.arr
  have hSA := rts_at hS hkA
  have hsz : ((((w.alloc (.cells t.arr 62)).alloc (.cells #[.int .u8 (wh : Int)] 5)).alloc (.cells #[.bool false] 4)).alloc (.cells t.arr 62)).heap.size = w.heap.size + 4 := by simp [World.size_alloc]
  simp only [World.size_alloc] at hN hQ hP
  clear hBA hS hc
  refine (callsIn_wide (n := 5)).1 ?_
  refine callsIn_of_wp_marks Tryz.func186 rfl trivial ?_ rfl
  simp only [Tryz.ntmps186, List.size_toArray, List.length_cons, List.length_nil, Nat.reduceAdd, Nat.reduceSub, Array.replicate_succ, Array.replicate_zero, List.push_toArray, List.append_toArray, List.nil_append, List.cons_append]
  gi_wp2_with (refine ⟨trivial, ?_⟩; gi_at_call 202; refine (parts_in _ t _).mono ?_; rintro e w' ⟨rfl, rfl⟩)
  generalize ((((w.alloc (.cells t.arr 62)).alloc (.cells #[.int .u8 (wh : Int)] 5)).alloc (.cells #[.bool false] 4)).alloc (.cells t.arr 62)) = wA at *
  refine wpIn_rangeFunc_ownH rfl (by omega) (gf := 220) (lb := #[.pointer (some ⟨w.heap.size + 1 + 1 + 1, 0, none⟩)]) rfl trivial (enters_of Tryz.func220 (by kernel_rfl) rfl)
    (parts_stops9 4 (w.heap.size + 1 + 1 + 1) w.heap.size 0 (fun _ _ => False) (mut_const 0 (fun _ => False)) t HF.out wA hP hSA (by intro b hb h; omega) (by omega) (by omega) (by intro i h; first | omega | exact absurd h (fun h => h))) KpM.trans (fun W l o o' hl h hc hw => KpM.putObj (w := wA) (mut_const 0 (fun _ => False)) (by omega) W l o o' hl h hc hw) (Below.refl _ _) (fun _ => rfl)
    (fun (pre : List (Part t)) W => (Boxed W (w.heap.size + 1) 5 (.int .u8 (wh : Int)) ∧ Boxed W (w.heap.size + 1 + 1) 4 (.bool false)) ∧ Kept (fun _ => False) w W ∧ pre.all (fun p : Part t => rowS wh (p.1.1.er, p.1.2)) = true)
    (fun c (pre : List (Part t)) W => Boxed W (w.heap.size + 1 + 1) 4 (.bool false) ∧ Kept (fun _ => False) w W ∧ (c = .ret ∧ pre.all (fun p : Part t => rowS wh (p.1.1.er, p.1.2)) = false))
    (OwnFrom.and (OwnFrom.and (Own.from (boxed_own _ _ _) _) (Own.from (boxed_own _ _ _) _)) (OwnFrom.and (kept_own (by omega)) (ownFrom_pure _ _)))
    (fun c => OwnFrom.and (Own.from (boxed_own _ _ _) _) (OwnFrom.and (kept_own (by omega)) (ownFrom_pure _ _)))
    ⟨⟨hN, hQ⟩, hkA, rfl⟩
    (fun x a' W => ∃ Bx, w.heap.size < Bx ∧ Box W Bx 62 x.1.1.arr ∧ a' = { tmps := #[t.val, .int .u8 (wh : Int), .pointer (some ⟨w.heap.size, 0, none⟩), .pointer (some ⟨w.heap.size + 1, 0, none⟩), .pointer (some ⟨w.heap.size + 1 + 1, 0, none⟩), .pointer (some ⟨Bx, 0, none⟩), .bool x.1.2, .agg #[.int .u8 (t.kind : Int), .string ⟨t.dep.name.toArray⟩, .int .u8 (t.dep.op : Int), .int .i64 t.dep.evr.epoch, .string ⟨t.dep.evr.ver.toArray⟩, .string ⟨t.dep.evr.rel.toArray⟩, .slice t.ao t.args.length t.cp], .func (.func 220) #[] #[.pointer (some ⟨w.heap.size + 1 + 1 + 1, 0, none⟩)], x.1.1.val, .bool x.1.2, undef, undef, undef, undef, undef, undef, undef, undef], defers := [] })
    (fun x a' _ X Y row hs hg hr => by obtain ⟨Bx, h1, h2, h3⟩ := hs; exact ⟨Bx, h1, box_own _ Bx 62 (fun (_ : Unit) => x.1.1.arr) () X Y row h2 hg hr, h3⟩)
    ?assign ?body ?done ?stop
  case assign =>
    rintro l pre x W K ⟨⟨hWh, hR⟩, hkW, hall⟩ hK
    gi_wp2
    have hsW := hkW.size
    exact hK _ _ ((KeepsOthers.alloc _ _).from _) (KpM.of_kept (mut_const 0 (fun _ => False)) (by omega) ((Kept.refl _ W).alloc _))
      ⟨⟨hWh.alloc _, hR.alloc _⟩, hkW.alloc _, hall⟩ ⟨W.heap.size, by have := hWh.lt; omega, Box.made _ _ _, rfl⟩
  case body =>
    rintro l pre x a' W hl ⟨r, hr⟩ ⟨⟨hWh, hR⟩, hkW, hall⟩ ⟨Bx, hBx, hX, rfl⟩ hlt
    have hok := HOK.out x.1 x.2
    have HKW := Lib.hid hkW
    have HALL := Lib.hid hall
    clear hkW hlt hall
    cases hb : rowS wh (x.1.1.er, x.1.2) with
    | true =>
      have HB := Lib.hid hb
      have MC := fun W hW => rowPart_walk x.1.1 wh x.1.2 hok.2 W hW
      rw [hb] at MC
      obtain ⟨T, F, t0, ht0, hFk, hFs⟩ := class_of W
      have fX := fun t => (hFk t).box hX (fun h => h)
      have fW := fun t => (hFk t).box (show Box W (w.heap.size + 1) 5 #[.int .u8 (wh : Int)] from hWh) (fun h => h)
      have m0 := fun t => (fX t).cell 0
      have m1 := fun t => (fX t).cell 1
      have m2 := fun t => (fX t).cell 2
      have m3 := fun t => (fX t).cell 3
      have m4 := fun t => (fX t).cell 4
      have m5 := fun t => (fX t).cell 5
      have m6 := fun t => (fX t).cell 6
      have m7 := fun t => (fW t).cell 0
      have KR := fun t => rowOf_walk x.1.1.kind hok.1 (F t) (hTB.kept (HKW.out.trans (hFk t) (fun _ _ h => h)))
      have KM := fun t => MC (F t) (hMB.on (HKW.out.trans (hFk t) (fun _ _ h => h)))
      have HFK := Lib.hid hFk
      have HFS := Lib.hid hFs
      have hne : Nonempty T := ⟨t0⟩
      clear hFk hFs fX fW MC hb
      gi_wp2
      refine wp_region_round F t0 ht0 hmo (by kernel_rfl) (by kernel_rfl) ?_
      repeat (go_big_quiet_step (first
        | (go_at_call 203; with_reducible exact class_call HFS.out (KR _))
        | (go_at_call 204; with_reducible exact class_call HFS.out (KM _))
        ))
      refine wpQuiet_nil ?_
      rintro _ ⟨tz, rfl⟩
      have hkz := HFK.out tz
      have hRz := hkz.box (show Box W (w.heap.size + 1 + 1) 4 #[.bool false] from hR) (fun h => h)
      have hWz := hkz.box (show Box W (w.heap.size + 1) 5 #[.int .u8 (wh : Int)] from hWh) (fun h => h)
      have r0 := hRz.cell 0
      have r1 := hRz.free 0
      have HD2 := Lib.hid hkz
      have HK2 := Lib.hid (HKW.out.trans hkz (fun _ _ h => h))
      have HR2 := Lib.hid hRz
      have HW2 := Lib.hid hWz
      clear hkz hRz hWz
      gi_wp2
      exact ⟨HD2.out.others.from _, KpM.of_kept (mut_const 0 (fun _ => False)) (Nat.zero_le _) HD2.out, ⟨HW2.out, HR2.out⟩, HK2.out, by rw [List.all_append, HALL.out]; simp [HB.out]⟩
    | false =>
      have HB := Lib.hid hb
      have MC := fun W hW => rowPart_walk x.1.1 wh x.1.2 hok.2 W hW
      rw [hb] at MC
      obtain ⟨T, F, t0, ht0, hFk, hFs⟩ := class_of W
      have fX := fun t => (hFk t).box hX (fun h => h)
      have fW := fun t => (hFk t).box (show Box W (w.heap.size + 1) 5 #[.int .u8 (wh : Int)] from hWh) (fun h => h)
      have m0 := fun t => (fX t).cell 0
      have m1 := fun t => (fX t).cell 1
      have m2 := fun t => (fX t).cell 2
      have m3 := fun t => (fX t).cell 3
      have m4 := fun t => (fX t).cell 4
      have m5 := fun t => (fX t).cell 5
      have m6 := fun t => (fX t).cell 6
      have m7 := fun t => (fW t).cell 0
      have KR := fun t => rowOf_walk x.1.1.kind hok.1 (F t) (hTB.kept (HKW.out.trans (hFk t) (fun _ _ h => h)))
      have KM := fun t => MC (F t) (hMB.on (HKW.out.trans (hFk t) (fun _ _ h => h)))
      have HFK := Lib.hid hFk
      have HFS := Lib.hid hFs
      have hne : Nonempty T := ⟨t0⟩
      clear hFk hFs fX fW MC hb
      gi_wp2
      refine wp_region_round F t0 ht0 hmo (by kernel_rfl) (by kernel_rfl) ?_
      repeat (go_big_quiet_step (first
        | (go_at_call 203; with_reducible exact class_call HFS.out (KR _))
        | (go_at_call 204; with_reducible exact class_call HFS.out (KM _))
        ))
      refine wpQuiet_nil ?_
      rintro _ ⟨tz, rfl⟩
      have hkz := HFK.out tz
      have hRz := hkz.box (show Box W (w.heap.size + 1 + 1) 4 #[.bool false] from hR) (fun h => h)
      have hWz := hkz.box (show Box W (w.heap.size + 1) 5 #[.int .u8 (wh : Int)] from hWh) (fun h => h)
      have r0 := hRz.cell 0
      have r1 := hRz.free 0
      have HD2 := Lib.hid hkz
      have HK2 := Lib.hid (HKW.out.trans hkz (fun _ _ h => h))
      have HR2 := Lib.hid hRz
      have HW2 := Lib.hid hWz
      clear hkz hRz hWz
      gi_wp2
      refine ⟨(HD2.out.others.from _).trans ((KeepsOthers.setCell _ _ _).from _), ?_, HK2.out.setCell (.inr (by show w.heap.size ≤ w.heap.size + 1 + 1; omega)) _, rfl, by rw [List.all_append]; simp [HB.out]⟩
      exact (show Boxed _ (w.heap.size + 1 + 1) 4 (.bool false) from HR2.out).set _
  case done =>
    rintro D ys W hD hys ⟨⟨hWh, hR⟩, hkW, hall⟩ hK
    have hcr := hR.cell
    have hfr := hR.frozen
    have hgD := fun X => grownBy_putObj' X D (.deferred none)
    have b1 := hR.set (.bool true)
    gi_wp2
    refine ⟨by simp, .inl ⟨_, _, rfl, run_takeDeferred ?_, ?_⟩⟩
    · exact (KeepsOthers.setCell W ⟨w.heap.size + 1 + 1, 0, none⟩ _).same D _ hK rfl
    · have c1 := (b1.kept (hgD _) (by intro e; cases e; omega)).cell
      refine ⟨_, result_formed _ (w.heap.size + 1 + 1) _ _ rfl c1, ?_, (hkW.setCell (.inr (by show w.heap.size ≤ w.heap.size + 1 + 1; omega)) _).grown (hgD _) (fun i hi => by cases hi; exact .inr (by omega))⟩
      rw [← itemsT_er, ← hys]
      have e : (ys.map Subtype.val).map (fun p => (p.1.er, p.2)) = ys.map (fun p => (p.1.1.er, p.1.2)) := by rw [List.map_map]; rfl
      rw [e, List.all_map]
      exact congrArg (fun b => Ending.returned (Value.bool b)) hall.symm
  case stop =>
    rintro D c pre W hD hpre ⟨hR, hkW, rfl, hall⟩ hK
    gi_wp2
    refine ⟨by simp, .inl ⟨_, _, rfl, run_takeDeferred hK, ?_⟩⟩
    have hgD := fun X => grownBy_putObj' X D (.deferred none)
    have c1 := (hR.kept (hgD _) (by intro e; cases e; omega)).cell
    refine ⟨_, result_formed _ (w.heap.size + 1 + 1) _ _ rfl c1, ?_, hkW.grown (hgD _) (fun i hi => by cases hi; exact .inr (by omega))⟩
    obtain ⟨zs, hz⟩ := hpre
    rw [← itemsT_er, ← hz, List.map_append, List.all_append]
    have e : (pre.map Subtype.val).map (fun p => (p.1.er, p.2)) = pre.map (fun p => (p.1.1.er, p.1.2)) := by rw [List.map_map]; rfl
    rw [e, List.all_map, show (pre.all (rowS wh ∘ fun p => (p.1.1.er, p.1.2))) = false from hall]
    rfl
end Go.Proofs.YtpdoeapjdifmbaaGreatDoor

namespace Go.Proofs.YtpdoeapjdifmbaaGreatDoor
open Go.RowKit Rich

theorem deeps_take9 {l : List R} {i : Nat} {x : R} (h : l[i]? = some x) : deeps (l.take (i + 1)) = max (deeps (l.take i)) (deep x) := by
  rw [List.take_add_one, h]
  have app : ∀ a b : List R, deeps (a ++ b) = max (deeps a) (deeps b) := by
    intro a b
    induction a with
    | nil => rw [deeps, List.nil_append]; omega
    | cons y a ih => rw [List.cons_append, deeps, deeps, ih]; omega
  rw [app]
  show max _ (deeps [x]) = _
  rw [deeps, deeps]
  omega
theorem deep_count9 : ∀ x : R, deep x ≤ count x := by
  refine R.ind fun k d l ih => ?_
  rw [deep, count]
  split
  · omega
  · have : deeps l ≤ counts l := by
      induction l with
      | nil => rw [deeps]; omega
      | cons y l ih2 =>
        rw [deeps, counts]
        have := ih y (by simp)
        have := ih2 (fun z hz => ih z (by simp [hz]))
        omega
    omega
set_option maxRecDepth 100000 in
set_option maxHeartbeats 2000000 in
theorem depth9_walk : ∀ (x : R) (v : Value) (w : World), RichS w x v → count x ≤ 40000 →
    Calls Tryz.prog 185 #[v] w fun e w' => e = .returned (.int .i64 (deep x : Int)) ∧ Kept (fun _ => False) w w' := by
  refine R.ind fun k d l ih v w hr hc => ?_
  rw [RichS] at hr
  obtain ⟨ao, cp, rfl, hk, ho, hA⟩ := hr
  rw [count] at hc
  have hll := counts_len l
  have HI := Lib.hid ih
  have HA := Lib.hid hA
  have HC := Lib.hid hc
  have HB := Lib.hid (Box.made w 62 (richA k d (.slice ao l.length cp)))
  clear ih hA hc
  have hlI : l.length ≤ 40000 := by have := HC.out; omega
  by_cases hk1 : k = 1
  · have HF := Lib.hid (show deep (.mk k d l) = 0 by rw [deep, if_pos hk1])
    have hkb : ((k : Int) == 1) = true := by simp; omega
    clear hk1
    go_enter Tryz.func185, Tryz.ntmps185
    go_wp2_with fail
    go_ret
    exact ⟨by rw [HF.out]; rfl, (Kept.refl _ _).alloc _⟩
  · have HCF := Lib.hid (show (deep (.mk k d l) : Int) = ((deeps l + 1 : Nat) : Int) by rw [deep, if_neg hk1])
    have hkb : ((k : Int) == 1) = false := by simp; omega
    clear hk1
    go_enter Tryz.func185, Tryz.ntmps185
    go_wp2_with fail
    go_loopw [3, 12] (fun v3 v4 wr => ∃ (i c : Nat), v3 = .int .i64 (c : Int) ∧ v4 = .int .i64 (i : Int) ∧ i ≤ l.length ∧ c ≤ 40000 ∧ Hid (c = deeps (l.take i)) ∧ Hid (Box wr w.heap.size 62 (richA k d (.slice ao l.length cp))) ∧ Hid (Kept (fun _ => False) w wr)) (fun _ v4 _ => l.length - (intOf v4).toNat)
    case atStart => exact ⟨0, 0, rfl, rfl, Nat.zero_le _, by omega, Lib.hid (by rw [List.take_zero, deeps]), HB, Lib.hid ((Kept.refl _ _).alloc _)⟩
    case round =>
      obtain ⟨i, c, rfl, rfl, hi, hc4, HCi, HBr, HK⟩ := hrel
      rename World => wr
      by_cases hlt : i < l.length
      · obtain ⟨x, hx⟩ : ∃ x, l[i]? = some x := ⟨_, List.getElem?_eq_getElem hlt⟩
        obtain ⟨b, off, ao', cp', rfl, hb, hrx, d0, d1, d2, d3, d4, d5, d6⟩ := (ArgS.kept HK.out ao 0 l HA.out).part hx
        have hct := counts_take hx
        have hcl := counts_take_le l (i + 1)
        have hdc := deep_count9 x
        have hcx : count x ≤ 40000 := by have := HC.out; omega
        have hkB : Kept (fun _ => False) wr (wr.alloc (.cells (richA x.kind x.dep (.slice ao' x.args.length cp')) 62)) := (Kept.refl _ wr).alloc _
        have hBB := Box.made wr 62 (richA x.kind x.dep (.slice ao' x.args.length cp'))
        have PC := HI.out x (List.mem_of_getElem? hx) _ _ (RichS.kept hkB x _ hrx) hcx
        have e0 := hBB.cell 0
        have e1 := hBB.cell 1
        have e2 := hBB.cell 2
        have e3 := hBB.cell 3
        have e4 := hBB.cell 4
        have e5 := hBB.cell 5
        have e6 := hBB.cell 6
        have HK1 := Lib.hid (HK.out.trans hkB (fun _ _ h => h))
        have HB1 := Lib.hid (hkB.box HBr.out (fun h => h))
        have HN := Lib.hid (show max c (deep x) = deeps (l.take (i + 1)) by rw [deeps_take9 hx, HCi.out])
        have hdx : deep x ≤ 40000 := by omega
        have hi0 : (0 : Int) ≤ (i : Int) := by omega
        have hiI : (i : Int) < (l.length : Int) := by omega
        generalize deep x = cx at *
        clear hx hrx hct hcl hdc hBB hkB
        by_cases hle : c ≤ cx
        · have hmx : max (c : Int) (cx : Int) = (cx : Int) := by omega
          have hmI : (c : Int) ≤ (cx : Int) := by omega
          have HN2 := Lib.hid (show cx = deeps (l.take (i + 1)) by rw [← HN.out]; omega)
          clear hle
          go_wp2_with (first
            | (go_at_call 185; refine PC.mono ?_; rintro e w5 ⟨rfl, hk5⟩; have HK := Lib.hid (Kept.trans HK1.out hk5 (fun _ _ h => h)); have HBr := Lib.hid (hk5.box HB1.out (fun h => h)); clear hk5)
            | fail)
          go_roundw
          case rel => exact ⟨i + 1, cx, by go_num, by go_num, by omega, hdx, HN2, HBr, HK⟩
          case measure => simp [intOf]; omega
        · have hmx : max (c : Int) (cx : Int) = (c : Int) := by omega
          have hmI : ¬ (c : Int) ≤ (cx : Int) := by omega
          have HN2 := Lib.hid (show c = deeps (l.take (i + 1)) by rw [← HN.out]; omega)
          clear hle
          go_wp2_with (first
            | (go_at_call 185; refine PC.mono ?_; rintro e w5 ⟨rfl, hk5⟩; have HK := Lib.hid (Kept.trans HK1.out hk5 (fun _ _ h => h)); have HBr := Lib.hid (hk5.box HB1.out (fun h => h)); clear hk5)
            | fail)
          go_roundw
          case rel => exact ⟨i + 1, c, by go_num, by go_num, by omega, hc4, HN2, HBr, HK⟩
          case measure => simp [intOf]; omega
      · have hge : ¬ (i : Int) < (l.length : Int) := by omega
        have HF := Lib.hid (show ((c : Nat) : Int) + 1 = (deep (.mk k d l) : Int) by
          rw [HCF.out, HCi.out, List.take_of_length_le (by omega)]; rfl)
        go_wp2_with fail
        go_ret
        exact ⟨by rw [← HF.out]; rfl, HK.out⟩
end Go.Proofs.YtpdoeapjdifmbaaGreatDoor

namespace Go.Proofs.YtpdoeapjdifmbaaGreatDoor
open Go.RowKit Ver Evr Span Dep Rich

/-- The program's May, of a rich dependency that is not too large to be counted. -/
theorem fitsS_items (x : R) (wh : Nat) (h1 : 1 ≤ wh) (h3 : wh ≤ 3) (hc : count x ≤ 24) : (items false x).all (rowS wh) = fitsS wh false x := items_all wh h1 h3 x false hc
def K9 (w : World) (f : Nat) (args : Array Value) (v : Value) : Prop := ∀ W, Kept (fun _ => False) w W → Calls Tryz.prog f args W fun e w' => e = .returned v ∧ Kept (fun _ => False) W w'
set_option maxRecDepth 100000 in
set_option maxHeartbeats 2000000 in
theorem may9_core (k : Nat) (d : D) (sl : Value) (wh : Nat) (L Z : Bool) (dp : Nat) (ans : Int) (w : World) (CL0 : K9 w 184 #[richV k d sl] (.bool L)) (CD0 : L = false → K9 w 185 #[richV k d sl] (.int .i64 (dp : Int)))
    (CF0 : L = false → K9 w 186 #[richV k d sl, .int .u8 (wh : Int)] (.bool Z)) (ha : ans = if wh < 1 ∨ 3 < wh then 1 else if L = true then 40 else if 8 < dp then 21 else if Z = true then 0 else 4) :
    Calls Tryz.prog 147 #[richV k d sl, .int .u8 (wh : Int)] w fun e w' => e = .returned (.int .i64 ans) ∧ Kept (fun _ => False) w w' := by
  have CL := Lib.hid CL0
  have CD := Lib.hid CD0
  have CF := Lib.hid CF0
  have HB := Lib.hid (Box.made w 62 (richA k d sl))
  have HK := Lib.hid ((Kept.refl (fun _ => False) w).alloc (.cells (richA k d sl) 62))
  have b0 := HB.out.cell 0
  have b1 := HB.out.cell 1
  have b2 := HB.out.cell 2
  have b3 := HB.out.cell 3
  have b4 := HB.out.cell 4
  have b5 := HB.out.cell 5
  have b6 := HB.out.cell 6
  clear CL0 CD0 CF0
  by_cases h1 : wh < 1
  · have HA := Lib.hid (show ans = 1 by rw [ha, if_pos (.inl h1)])
    have g1 : (wh : Int) < 1 := by omega
    clear ha h1
    go_enter Tryz.func147, Tryz.ntmps147
    go_wp2_with (first
      | fail)
    go_ret
    exact ⟨by rw [HA.out]; rfl, HK.out⟩
  by_cases h3 : 3 < wh
  · have HA := Lib.hid (show ans = 1 by rw [ha, if_pos (.inr h3)])
    have g1 : ¬ (wh : Int) < 1 := by omega
    have g3 : (3 : Int) < (wh : Int) := by omega
    clear ha h1 h3
    go_enter Tryz.func147, Tryz.ntmps147
    go_wp2_with (first
      | fail)
    go_ret
    exact ⟨by rw [HA.out]; rfl, HK.out⟩
  have g1 : ¬ (wh : Int) < 1 := by omega
  have g3 : ¬ (3 : Int) < (wh : Int) := by omega
  rw [if_neg (by omega)] at ha
  clear h1 h3
  cases L with
  | true =>
    have HA := Lib.hid (show ans = 40 by rw [ha, if_pos rfl])
    clear ha
    go_enter Tryz.func147, Tryz.ntmps147
    go_wp2_with (first
      | (go_at_call 184; refine (CL.out _ HK.out).mono ?_; rintro e w1 ⟨rfl, hk1⟩; have HB := Lib.hid (hk1.box HB.out (fun h => h)); have HK := Lib.hid (HK.out.trans hk1 (fun _ _ h => h)); have b0 := HB.out.cell 0; have b1 := HB.out.cell 1; have b2 := HB.out.cell 2; have b3 := HB.out.cell 3; have b4 := HB.out.cell 4; have b5 := HB.out.cell 5; have b6 := HB.out.cell 6; clear hk1)
      | fail)
    go_ret
    exact ⟨by rw [HA.out]; rfl, HK.out⟩
  | false =>
    have CDx := Lib.hid (CD.out rfl)
    have CFx := Lib.hid (CF.out rfl)
    clear CD CF
    have CD := CDx
    have CF := CFx
    clear CDx CFx
    rw [if_neg (by simp)] at ha
    by_cases h8 : 8 < dp
    · have HA := Lib.hid (show ans = 21 by rw [ha, if_pos h8])
      have g8 : (8 : Int) < (dp : Int) := by omega
      clear ha h8
      go_enter Tryz.func147, Tryz.ntmps147
      go_wp2_with (first
        | (go_at_call 184; refine (CL.out _ HK.out).mono ?_; rintro e w1 ⟨rfl, hk1⟩; have HB := Lib.hid (hk1.box HB.out (fun h => h)); have HK := Lib.hid (HK.out.trans hk1 (fun _ _ h => h)); have b0 := HB.out.cell 0; have b1 := HB.out.cell 1; have b2 := HB.out.cell 2; have b3 := HB.out.cell 3; have b4 := HB.out.cell 4; have b5 := HB.out.cell 5; have b6 := HB.out.cell 6; clear hk1)
        | (go_at_call 185; refine (CD.out _ HK.out).mono ?_; rintro e w2 ⟨rfl, hk2⟩; have HB := Lib.hid (hk2.box HB.out (fun h => h)); have HK := Lib.hid (HK.out.trans hk2 (fun _ _ h => h)); have b0 := HB.out.cell 0; have b1 := HB.out.cell 1; have b2 := HB.out.cell 2; have b3 := HB.out.cell 3; have b4 := HB.out.cell 4; have b5 := HB.out.cell 5; have b6 := HB.out.cell 6; clear hk2)
        | fail)
      go_ret
      exact ⟨by rw [HA.out]; rfl, HK.out⟩
    · have g8 : ¬ (8 : Int) < (dp : Int) := by omega
      rw [if_neg h8] at ha
      clear h8
      cases Z with
      | true =>
        have HA := Lib.hid (show ans = 0 by rw [ha, if_pos rfl])
        clear ha
        go_enter Tryz.func147, Tryz.ntmps147
        go_wp2_with (first
          | (go_at_call 184; refine (CL.out _ HK.out).mono ?_; rintro e w1 ⟨rfl, hk1⟩; have HB := Lib.hid (hk1.box HB.out (fun h => h)); have HK := Lib.hid (HK.out.trans hk1 (fun _ _ h => h)); have b0 := HB.out.cell 0; have b1 := HB.out.cell 1; have b2 := HB.out.cell 2; have b3 := HB.out.cell 3; have b4 := HB.out.cell 4; have b5 := HB.out.cell 5; have b6 := HB.out.cell 6; clear hk1)
          | (go_at_call 185; refine (CD.out _ HK.out).mono ?_; rintro e w2 ⟨rfl, hk2⟩; have HB := Lib.hid (hk2.box HB.out (fun h => h)); have HK := Lib.hid (HK.out.trans hk2 (fun _ _ h => h)); have b0 := HB.out.cell 0; have b1 := HB.out.cell 1; have b2 := HB.out.cell 2; have b3 := HB.out.cell 3; have b4 := HB.out.cell 4; have b5 := HB.out.cell 5; have b6 := HB.out.cell 6; clear hk2)
          | (go_at_call 186; refine (CF.out _ HK.out).mono ?_; rintro e w3 ⟨rfl, hk3⟩; have HB := Lib.hid (hk3.box HB.out (fun h => h)); have HK := Lib.hid (HK.out.trans hk3 (fun _ _ h => h)); have b0 := HB.out.cell 0; have b1 := HB.out.cell 1; have b2 := HB.out.cell 2; have b3 := HB.out.cell 3; have b4 := HB.out.cell 4; have b5 := HB.out.cell 5; have b6 := HB.out.cell 6; clear hk3)
          | fail)
        go_ret
        exact ⟨by rw [HA.out]; rfl, HK.out⟩
      | false =>
        have HA := Lib.hid (show ans = 4 by rw [ha, if_neg (by simp)])
        clear ha
        go_enter Tryz.func147, Tryz.ntmps147
        go_wp2_with (first
          | (go_at_call 184; refine (CL.out _ HK.out).mono ?_; rintro e w1 ⟨rfl, hk1⟩; have HB := Lib.hid (hk1.box HB.out (fun h => h)); have HK := Lib.hid (HK.out.trans hk1 (fun _ _ h => h)); have b0 := HB.out.cell 0; have b1 := HB.out.cell 1; have b2 := HB.out.cell 2; have b3 := HB.out.cell 3; have b4 := HB.out.cell 4; have b5 := HB.out.cell 5; have b6 := HB.out.cell 6; clear hk1)
          | (go_at_call 185; refine (CD.out _ HK.out).mono ?_; rintro e w2 ⟨rfl, hk2⟩; have HB := Lib.hid (hk2.box HB.out (fun h => h)); have HK := Lib.hid (HK.out.trans hk2 (fun _ _ h => h)); have b0 := HB.out.cell 0; have b1 := HB.out.cell 1; have b2 := HB.out.cell 2; have b3 := HB.out.cell 3; have b4 := HB.out.cell 4; have b5 := HB.out.cell 5; have b6 := HB.out.cell 6; clear hk2)
          | (go_at_call 186; refine (CF.out _ HK.out).mono ?_; rintro e w3 ⟨rfl, hk3⟩; have HB := Lib.hid (hk3.box HB.out (fun h => h)); have HK := Lib.hid (HK.out.trans hk3 (fun _ _ h => h)); have b0 := HB.out.cell 0; have b1 := HB.out.cell 1; have b2 := HB.out.cell 2; have b3 := HB.out.cell 3; have b4 := HB.out.cell 4; have b5 := HB.out.cell 5; have b6 := HB.out.cell 6; clear hk3)
          | fail)
        go_ret
        exact ⟨by rw [HA.out]; rfl, HK.out⟩
/-- What the program's May answers, of however many parts. -/
theorem may9F_walk (x : R) (v : Value) (wh : Nat) (w : World) (hS : RichS w x v) (hf : fitsX x) (hTB : TabW9 w) (hMB : MayP9 w) :
    Calls Tryz.prog 147 #[v, .int .u8 (wh : Int)] w fun e w' => e = .returned (.int .i64 (mayS x wh)) ∧ Kept (fun _ => False) w w' := by
  have hS0 := hS
  obtain ⟨k, d, l⟩ := x
  rw [RichS] at hS
  obtain ⟨ao, cp, rfl, _⟩ := hS
  refine may9_core k d _ wh (decide (24 < count (.mk k d l))) ((items false (.mk k d l)).all (rowS wh)) (deep (.mk k d l)) _ w (fun W hW => ?_) (fun hL W hW => depth9_walk _ _ W (RichS.kept hW _ _ hS0) (by have := of_decide_eq_false hL; omega)) (fun hL W hW => ?_) ?_
  · obtain ⟨t, e1, e2, e3⟩ := rt_of _ _ (RichS.kept hW _ _ hS0)
    rw [← e1, ← e2]
    exact large_tF t W e3 (few_of_fits t (by rw [e1]; exact hf))
  · obtain ⟨t, e1, e2, e3⟩ := rt_of _ _ (RichS.kept hW _ _ hS0)
    rw [← e1, ← e2]
    exact formed_t t wh W e3 (by have := of_decide_eq_false hL; rw [e1]; omega) (hTB.kept hW) (hMB.on hW)
  · unfold mayS
    by_cases h1 : wh < 1 ∨ 3 < wh
    · rw [if_pos h1, if_pos h1]
    · rw [if_neg h1, if_neg h1]
      by_cases h2 : 24 < count (.mk k d l)
      · have e2 : decide (24 < count (.mk k d l)) = true := by simpa using h2
        rw [if_pos h2, if_pos e2]
      · have e2 : ¬ (decide (24 < count (.mk k d l)) = true) := by simpa using h2
        rw [if_neg h2, if_neg e2, fitsS_items _ _ (by omega) (by omega) (by omega)]
end Go.Proofs.YtpdoeapjdifmbaaGreatDoor
