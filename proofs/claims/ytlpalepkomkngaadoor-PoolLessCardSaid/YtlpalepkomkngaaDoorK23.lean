/-
  The walk over the document's comparison of lists of texts (layer 6). Lists that are the same (layer 10): slices.Equal of dependencies and of texts; the document's Deps. Lists of rich dependencies that are the same (layer 10): the document's Riches, the program's sameRich. The walk over the program's Same of packages (layer 10). The walk over the program's Same of packages (layer 10). The walk over the program's Same of packages (layer 10). The walk over the document's Same of packages (layer 10). Conditions: as each theorem states.
-/
import Derived.Test.YtlpalepkomkngaaDoorK05
import Derived.Test.YtlpalepkomkngaaDoorRows
import Derived.Handy
import Derived.Lib.Hide
import Derived.Deep.CutRange
import Derived.BigQuiet
import Derived.Deep.QuietTactic
import Derived.Deep.CutBlock
import Derived.Test.YtlpalepkomkngaaDoorK20
import Derived.Deep.RegionHeld3
namespace Go.Proofs.YtlpalepkomkngaaDoor
open Go.RowKit

set_option maxRecDepth 100000 in
set_option maxHeartbeats 1000000 in
theorem texts6_walk (va vb : Value) (xs ys : List ByteArray) (w : World) (hx : xs.length ≤ 1000000) (ha : StrS w va xs) (hb : StrS w vb ys) :
    Calls Tryd.prog 25 #[va, vb] w fun e w' => e = .returned (.bool (decide (xs = ys))) ∧ Kept (fun _ => False) w w' := by
  obtain ⟨a1, c1, rfl, h1⟩ := ha
  obtain ⟨a2, c2, rfl, h2⟩ := hb
  by_cases hl : xs.length = ys.length
  · have hne : ((xs.length : Int) != (ys.length : Int)) = false := by simp [hl]
    have HL := Lib.hid hl
    have H1 := Lib.hid h1
    have H2 := Lib.hid h2
    clear h1 h2 hl
    go_enter Tryd.func25, Tryd.ntmps25
    go_wp2_with fail
    go_loopw [5] (fun v5 wr => ∃ i : Nat, v5 = .int .i64 (i : Int) ∧ i ≤ xs.length ∧ xs.take i = ys.take i ∧ Kept (fun _ => False) w wr) (fun v5 _ => xs.length - (intOf v5).toNat)
    case atStart => exact ⟨0, rfl, Nat.zero_le _, rfl, Kept.refl _ _⟩
    case round =>
      obtain ⟨i, rfl, hi, ht, hk⟩ := hrel
      have HT := Lib.hid ht
      clear ht
      by_cases hlt : i < xs.length
      · obtain ⟨u, hu⟩ : ∃ u, xs[i]? = some u := ⟨_, List.getElem?_eq_getElem hlt⟩
        obtain ⟨t, ht⟩ : ∃ t, ys[i]? = some t := ⟨_, List.getElem?_eq_getElem (by have := HL.out; omega)⟩
        obtain ⟨p1, e1, g1, l1⟩ := H1.out i u hu
        obtain ⟨p2, e2, g2, l2⟩ := H2.out i t ht
        have hstep := take_more hu ht HT.out
        have k1 := (hk.cell (p := p1.add i) (by rw [add_block]; exact l1) (fun h => h)).trans g1
        have k2 := (hk.cell (p := p2.add i) (by rw [add_block]; exact l2) (fun h => h)).trans g2
        have HS := Lib.hid hstep
        clear hstep hu ht g1 g2
        subst e1
        subst e2
        have hlt2 : i < ys.length := by have := HL.out; omega
        have d1 := (show wr.drew.cell? (p1.add i) = some (.string u) from k1)
        have d2 := (show wr.drew.cell? (p2.add i) = some (.string t) from k2)
        by_cases hut : u = t
        · have hb : (u.toList == t.toList) = true := by rw [hut]; simp
          go_wp2_with (go_quiet (fail))
          go_roundw
          case rel => exact ⟨i + 1, by go_num, by omega, HS.out.1 hut, hk.drewN _⟩
          case measure => simp [intOf]; omega
        · have hb : (u.toList == t.toList) = false := by
            rw [ByteArray.toList_eq, ByteArray.toList_eq, beq_eq_false_iff_ne]
            exact fun e => hut (Go.WideShapes.bytes_inj e)
          go_wp2_with (go_quiet (fail))
          go_ret
          exact ⟨by rw [decide_eq_false (HS.out.2 hut)]; rfl, hk.drewN _⟩
      · go_wp2
        go_ret
        have e : xs = ys := by
          have := HT.out
          rw [List.take_of_length_le (by omega), List.take_of_length_le (by have := HL.out; omega)] at this
          exact this
        exact ⟨by rw [decide_eq_true e]; rfl, hk⟩
  · have hne : ((xs.length : Int) != (ys.length : Int)) = true := by simp; omega
    go_enter Tryd.func25, Tryd.ntmps25
    go_wp2
    go_ret
    exact ⟨by rw [decide_eq_false (fun e => hl (by rw [e]))]; rfl, Kept.refl _ _⟩
end Go.Proofs.YtlpalepkomkngaaDoor

namespace Go.Proofs.YtlpalepkomkngaaDoor
open Go.RowKit Ver Evr Span Dep Rich

/-- Whether two are the same. -/
 noncomputable def eqP {α : Type} (a b : α) : Bool := @decide (a = b) (Classical.propDecidable _)
theorem eqP_yes {α : Type} {a b : α} (h : a = b) : eqP a b = true := @decide_eq_true _ (Classical.propDecidable _) h
theorem eqP_no {α : Type} {a b : α} (h : a ≠ b) : eqP a b = false := @decide_eq_false _ (Classical.propDecidable _) h
theorem eqP_iff {α : Type} {a b : α} : eqP a b = true ↔ a = b := @decide_eq_true_iff _ (Classical.propDecidable _)
theorem take_moreD {xs ys : List De} {i : Nat} {u t : De} (hu : xs[i]? = some u) (ht : ys[i]? = some t) (h : xs.take i = ys.take i) : (u = t → xs.take (i + 1) = ys.take (i + 1)) ∧ (u ≠ t → xs ≠ ys) := by
  refine ⟨fun e => by rw [List.take_add_one, List.take_add_one, hu, ht, h, e], fun hne e => ?_⟩
  subst e
  rw [hu] at ht
  exact hne (Option.some.inj ht)
theorem bytes_ne10 {u t : ByteArray} (h : u ≠ t) : (u.toList == t.toList) = false := by
  rw [ByteArray.toList_eq, ByteArray.toList_eq, beq_eq_false_iff_ne]
  exact fun e => h (Go.WideShapes.bytes_inj e)
set_option maxRecDepth 100000 in
set_option maxHeartbeats 8000000 in
theorem deps10_walk (va vb : Value) (xs ys : List De) (w : World) (hx : xs.length ≤ 1000000) (ha : DesS w va xs) (hb : DesS w vb ys) :
    Calls Tryd.prog 23 #[va, vb] w fun e w' => e = .returned (.bool (eqP xs ys)) ∧ Kept (fun _ => False) w w' := by
  have H1 := Lib.hid ha
  have H2 := Lib.hid hb
  obtain ⟨a1, c1, rfl, _⟩ := ha
  obtain ⟨a2, c2, rfl, _⟩ := hb
  by_cases hl : xs.length = ys.length
  · have hne : ((xs.length : Int) != (ys.length : Int)) = false := by simp [hl]
    have HL := Lib.hid hl
    clear hl
    go_enter Tryd.func23, Tryd.ntmps23
    go_wp2_with fail
    go_loopw [5] (fun v5 wr => ∃ i : Nat, v5 = .int .i64 (i : Int) ∧ i ≤ xs.length ∧ Hid (xs.take i = ys.take i) ∧ Hid (Kept (fun _ => False) w wr)) (fun v5 _ => xs.length - (intOf v5).toNat)
    case atStart => exact ⟨0, rfl, Nat.zero_le _, Lib.hid rfl, Lib.hid (Kept.refl _ _)⟩
    case round =>
      obtain ⟨i, rfl, hi, HT, HK⟩ := hrel
      rename World => wr
      by_cases hlt : i < xs.length
      · obtain ⟨u, hu⟩ : ∃ u, xs[i]? = some u := ⟨_, List.getElem?_eq_getElem hlt⟩
        obtain ⟨t, ht⟩ : ∃ t, ys[i]? = some t := ⟨_, List.getElem?_eq_getElem (by have := HL.out; omega)⟩
        obtain ⟨_, b1, o1, rfl, l1, p0, p1, p2, p3, p4⟩ := (H1.out.kept HK.out).at hu
        obtain ⟨_, b2, o2, rfl, l2, q0, q1, q2, q3, q4⟩ := (H2.out.kept HK.out).at ht
        have hstep := take_moreD hu ht HT.out
        have HS := Lib.hid hstep
        clear hstep hu ht l1 l2
        have hi0 : (0 : Int) ≤ (i : Int) := by omega
        have hiI : (i : Int) < (xs.length : Int) := by omega
        have hiJ : (i : Int) < (ys.length : Int) := by have := HL.out; omega
        have hlt2 : i < ys.length := by have := HL.out; omega
        obtain ⟨nm, o, n, v, r⟩ := u
        obtain ⟨nm', o', n', v', r'⟩ := t
        dsimp only at p0 p1 p2 p3 p4 q0 q1 q2 q3 q4
        by_cases hut : (⟨nm, o, n, v, r⟩ : De) = ⟨nm', o', n', v', r'⟩
        · have HS1 := Lib.hid (HS.out.1 hut)
          injection hut with e0 e1 e2 e3 e4
          subst e0 e1 e2 e3 e4
          go_wp2_with (go_quiet (fail))
          go_roundw
          case rel => exact ⟨i + 1, by go_num, by omega, HS1, Lib.hid (HK.out.drewN _)⟩
          case measure => simp [intOf]; omega
        · have HS2 := Lib.hid (HS.out.2 hut)
          by_cases e0 : nm = nm'
          rotate_left
          · clear hut
            have hq := bytes_ne10 e0
            go_wp2_with (go_quiet (fail))
            go_ret
            exact ⟨by rw [eqP_no HS2.out]; rfl, HK.out.drewN _⟩
          subst e0
          by_cases e1 : o = o'
          rotate_left
          · clear hut
            have hq : ((o : Int) == (o' : Int)) = false := by rw [beq_eq_false_iff_ne]; omega
            go_wp2_with (go_quiet (fail))
            go_ret
            exact ⟨by rw [eqP_no HS2.out]; rfl, HK.out.drewN _⟩
          subst e1
          by_cases e2 : n = n'
          rotate_left
          · clear hut
            have hq : (n == n') = false := by rw [beq_eq_false_iff_ne]; exact e2
            go_wp2_with (go_quiet (fail))
            go_ret
            exact ⟨by rw [eqP_no HS2.out]; rfl, HK.out.drewN _⟩
          subst e2
          by_cases e3 : v = v'
          rotate_left
          · clear hut
            have hq := bytes_ne10 e3
            go_wp2_with (go_quiet (fail))
            go_ret
            exact ⟨by rw [eqP_no HS2.out]; rfl, HK.out.drewN _⟩
          subst e3
          have e4 : ¬ r = r' := fun e => hut (by rw [e])
          clear hut
          have hq := bytes_ne10 e4
          go_wp2_with (go_quiet (fail))
          go_ret
          exact ⟨by rw [eqP_no HS2.out]; rfl, HK.out.drewN _⟩
      · obtain rfl : i = xs.length := by omega
        have hge : ¬ (xs.length : Int) < (xs.length : Int) := by omega
        have he : xs = ys := by
          have h := HT.out
          rw [List.take_length, List.take_of_length_le (by have := HL.out; omega)] at h
          exact h
        have HE := Lib.hid (eqP_yes he)
        clear he
        go_wp2_with fail
        go_ret
        exact ⟨by rw [HE.out]; rfl, HK.out⟩
  · have hne : ((xs.length : Int) != (ys.length : Int)) = true := by simp; omega
    have HE := Lib.hid (show eqP xs ys = false from eqP_no (fun e => hl (by rw [e])))
    clear hl
    go_enter Tryd.func23, Tryd.ntmps23
    go_wp2_with fail
    go_ret
    exact ⟨by rw [HE.out]; rfl, Kept.refl _ _⟩
end Go.Proofs.YtlpalepkomkngaaDoor

namespace Go.Proofs.YtlpalepkomkngaaDoor
open Go.RowKit Ver Evr Span Dep Rich

theorem sameL_eqP (l m : List R) : (decide (l.length = m.length) && sameL l m) = eqP l m := by
  by_cases h : l.length = m.length
  · rw [decide_eq_true h, Bool.true_and]
    by_cases e : l = m
    · rw [eqP_yes e, (sameL_iff l m h).2 e]
    · rw [eqP_no e]
      cases hs : sameL l m with
      | false => rfl
      | true => exact absurd ((sameL_iff l m h).1 hs) e
  · rw [decide_eq_false h, Bool.false_and, eqP_no (fun e => h (by rw [e]))]
set_option maxRecDepth 100000 in
set_option maxHeartbeats 8000000 in
theorem riches10_walk (va vb : Value) (l m : List R) (w : World) (hl : l.length < 140737488355328) (ha : RisS w va l) (hb : RisS w vb m) (hf : fitsL l) :
    Calls Tryd.prog 24 #[va, vb] w fun e w' => e = .returned (.bool (eqP l m)) ∧ Kept (fun _ => False) w w' := by
  obtain ⟨a1, c1, rfl, h1⟩ := ha
  obtain ⟨a2, c2, rfl, h2⟩ := hb
  have HFL := Lib.hid hf
  clear hf
  by_cases hlm : l.length = m.length
  · have hne : ((l.length : Int) != (m.length : Int)) = false := by simp [hlm]
    have HL := Lib.hid hlm
    have H1 := Lib.hid h1
    have H2 := Lib.hid h2
    clear h1 h2 hlm
    go_enter Tryd.func24, Tryd.ntmps24
    go_wp2_with fail
    go_loopw [5] (fun v5 wr => ∃ i : Nat, v5 = .int .i64 (i : Int) ∧ i ≤ l.length ∧ Hid (l.take i = m.take i) ∧ Hid (Kept (fun _ => False) w wr)) (fun v5 _ => l.length - (intOf v5).toNat)
    case atStart => exact ⟨0, rfl, Nat.zero_le _, Lib.hid rfl, Lib.hid (Kept.refl _ _)⟩
    case round =>
      obtain ⟨i, rfl, hi, HT, HK⟩ := hrel
      rename World => wr
      by_cases hlt : i < l.length
      · obtain ⟨x, hx⟩ : ∃ x, l[i]? = some x := ⟨_, List.getElem?_eq_getElem hlt⟩
        have hlt' : i < m.length := by have := HL.out; omega
        obtain ⟨y, hy⟩ : ∃ y, m[i]? = some y := ⟨_, List.getElem?_eq_getElem hlt'⟩
        obtain ⟨b1, o1, ap, cx, rfl, hb1, hrx, d0, d1, d2, d3, d4, d5, d6⟩ := (ArgS.kept HK.out _ 0 l H1.out).part hx
        obtain ⟨b2, o2, aq, cy, rfl, hb2, hry, g0, g1, g2, g3, g4, g5, g6⟩ := (ArgS.kept HK.out _ 0 m H2.out).part hy
        have PC := fun W (hk : Kept (fun _ => False) wr W) => sameR9_walk x y _ _ W (RichS.kept hk x _ hrx) (RichS.kept hk y _ hry) (fitsL_mem HFL.out (List.mem_of_getElem? hx))
        have hxy := sameX_iff x y
        have hstep : (x = y → l.take (i + 1) = m.take (i + 1)) ∧ (x ≠ y → l ≠ m) := ⟨fun e => by rw [List.take_add_one, List.take_add_one, hx, hy, HT.out, e], fun hnq e => by
          subst e
          rw [hx] at hy
          exact hnq (Option.some.inj hy)⟩
        have HS := Lib.hid hstep
        have hi0 : (0 : Int) ≤ (i : Int) := by omega
        have hiI : (i : Int) < (l.length : Int) := by omega
        have hiJ : (i : Int) < (m.length : Int) := by omega
        obtain ⟨kx, dx, lx⟩ := x
        obtain ⟨ky, dy, ly⟩ := y
        have HCJ := Lib.hid (fun (W : World) (hk : Kept (fun _ => False) wr W) => show W.cell? ⟨b1, o1 + i * 7, none⟩ = some (.int .u8 (kx : Int)) ∧ W.cell? ⟨b1, o1 + i * 7 + 1, none⟩ = some (.string ⟨dx.name.toArray⟩) ∧ W.cell? ⟨b1, o1 + i * 7 + 2, none⟩ = some (.int .u8 (dx.op : Int)) ∧ W.cell? ⟨b1, o1 + i * 7 + 3, none⟩ = some (.int .i64 dx.evr.epoch) ∧ W.cell? ⟨b1, o1 + i * 7 + 4, none⟩ = some (.string ⟨dx.evr.ver.toArray⟩) ∧ W.cell? ⟨b1, o1 + i * 7 + 5, none⟩ = some (.string ⟨dx.evr.rel.toArray⟩) ∧ W.cell? ⟨b1, o1 + i * 7 + 6, none⟩ = some (.slice ap lx.length cx) ∧ W.cell? ⟨b2, o2 + i * 7, none⟩ = some (.int .u8 (ky : Int)) ∧ W.cell? ⟨b2, o2 + i * 7 + 1, none⟩ = some (.string ⟨dy.name.toArray⟩) ∧ W.cell? ⟨b2, o2 + i * 7 + 2, none⟩ = some (.int .u8 (dy.op : Int)) ∧ W.cell? ⟨b2, o2 + i * 7 + 3, none⟩ = some (.int .i64 dy.evr.epoch) ∧ W.cell? ⟨b2, o2 + i * 7 + 4, none⟩ = some (.string ⟨dy.evr.ver.toArray⟩) ∧ W.cell? ⟨b2, o2 + i * 7 + 5, none⟩ = some (.string ⟨dy.evr.rel.toArray⟩) ∧ W.cell? ⟨b2, o2 + i * 7 + 6, none⟩ = some (.slice aq ly.length cy) from ⟨(hk.cell (p := ⟨b1, o1 + i * 7, none⟩) hb1 (fun h => h)).trans d0, (hk.cell (p := ⟨b1, o1 + i * 7 + 1, none⟩) hb1 (fun h => h)).trans d1, (hk.cell (p := ⟨b1, o1 + i * 7 + 2, none⟩) hb1 (fun h => h)).trans d2, (hk.cell (p := ⟨b1, o1 + i * 7 + 3, none⟩) hb1 (fun h => h)).trans d3, (hk.cell (p := ⟨b1, o1 + i * 7 + 4, none⟩) hb1 (fun h => h)).trans d4, (hk.cell (p := ⟨b1, o1 + i * 7 + 5, none⟩) hb1 (fun h => h)).trans d5, (hk.cell (p := ⟨b1, o1 + i * 7 + 6, none⟩) hb1 (fun h => h)).trans d6, (hk.cell (p := ⟨b2, o2 + i * 7, none⟩) hb2 (fun h => h)).trans g0, (hk.cell (p := ⟨b2, o2 + i * 7 + 1, none⟩) hb2 (fun h => h)).trans g1, (hk.cell (p := ⟨b2, o2 + i * 7 + 2, none⟩) hb2 (fun h => h)).trans g2, (hk.cell (p := ⟨b2, o2 + i * 7 + 3, none⟩) hb2 (fun h => h)).trans g3, (hk.cell (p := ⟨b2, o2 + i * 7 + 4, none⟩) hb2 (fun h => h)).trans g4, (hk.cell (p := ⟨b2, o2 + i * 7 + 5, none⟩) hb2 (fun h => h)).trans g5, (hk.cell (p := ⟨b2, o2 + i * 7 + 6, none⟩) hb2 (fun h => h)).trans g6⟩)
        have HKd := Lib.hid (show Kept (fun _ => False) wr wr.drew from (Kept.refl _ wr).drew)
        have KS0 := HCJ.out _ HKd.out
        clear hx hy hrx hry hb1 hb2 d0 d1 d2 d3 d4 d5 d6 g0 g1 g2 g3 g4 g5 g6 hstep
        cases hsx : sameX (.mk kx dx lx) (.mk ky dy ly) with
        | true =>
          have HS1 := Lib.hid (HS.out.1 (hxy.1 hsx))
          rw [hsx] at PC
          clear hxy hsx HS
          go_wp2_with fail
          go_region_held3 (fun w' => w'.cell? ⟨b1, o1 + i * 7, none⟩ = some (.int .u8 (kx : Int)) ∧ w'.cell? ⟨b1, o1 + i * 7 + 1, none⟩ = some (.string ⟨dx.name.toArray⟩) ∧ w'.cell? ⟨b1, o1 + i * 7 + 2, none⟩ = some (.int .u8 (dx.op : Int)) ∧ w'.cell? ⟨b1, o1 + i * 7 + 3, none⟩ = some (.int .i64 dx.evr.epoch) ∧ w'.cell? ⟨b1, o1 + i * 7 + 4, none⟩ = some (.string ⟨dx.evr.ver.toArray⟩) ∧ w'.cell? ⟨b1, o1 + i * 7 + 5, none⟩ = some (.string ⟨dx.evr.rel.toArray⟩) ∧ w'.cell? ⟨b1, o1 + i * 7 + 6, none⟩ = some (.slice ap lx.length cx) ∧ w'.cell? ⟨b2, o2 + i * 7, none⟩ = some (.int .u8 (ky : Int)) ∧ w'.cell? ⟨b2, o2 + i * 7 + 1, none⟩ = some (.string ⟨dy.name.toArray⟩) ∧ w'.cell? ⟨b2, o2 + i * 7 + 2, none⟩ = some (.int .u8 (dy.op : Int)) ∧ w'.cell? ⟨b2, o2 + i * 7 + 3, none⟩ = some (.int .i64 dy.evr.epoch) ∧ w'.cell? ⟨b2, o2 + i * 7 + 4, none⟩ = some (.string ⟨dy.evr.ver.toArray⟩) ∧ w'.cell? ⟨b2, o2 + i * 7 + 5, none⟩ = some (.string ⟨dy.evr.rel.toArray⟩) ∧ w'.cell? ⟨b2, o2 + i * 7 + 6, none⟩ = some (.slice aq ly.length cy))
            (first | with_reducible exact KS0 | with_reducible exact KS5)
            (first
              | (go_at_call 36; refine (PC _ HKd.out).mono ?_; rintro e w5 ⟨rfl, hk5⟩; have HK5 := Lib.hid (HKd.out.trans hk5 (fun _ _ h => h)); have KS5 := HCJ.out _ HK5.out; clear hk5)
              | fail)
          go_wp2_with fail
          go_roundw
          case rel => exact ⟨i + 1, by go_num, by omega, HS1, Lib.hid (HK.out.trans HK5.out (fun _ _ h => h))⟩
          case measure => simp [intOf]; omega
        | false =>
          have HS2 := Lib.hid (HS.out.2 (fun e => by rw [hxy.2 e] at hsx; cases hsx))
          rw [hsx] at PC
          clear hxy hsx HS
          go_wp2_with fail
          go_region_held3 (fun w' => w'.cell? ⟨b1, o1 + i * 7, none⟩ = some (.int .u8 (kx : Int)) ∧ w'.cell? ⟨b1, o1 + i * 7 + 1, none⟩ = some (.string ⟨dx.name.toArray⟩) ∧ w'.cell? ⟨b1, o1 + i * 7 + 2, none⟩ = some (.int .u8 (dx.op : Int)) ∧ w'.cell? ⟨b1, o1 + i * 7 + 3, none⟩ = some (.int .i64 dx.evr.epoch) ∧ w'.cell? ⟨b1, o1 + i * 7 + 4, none⟩ = some (.string ⟨dx.evr.ver.toArray⟩) ∧ w'.cell? ⟨b1, o1 + i * 7 + 5, none⟩ = some (.string ⟨dx.evr.rel.toArray⟩) ∧ w'.cell? ⟨b1, o1 + i * 7 + 6, none⟩ = some (.slice ap lx.length cx) ∧ w'.cell? ⟨b2, o2 + i * 7, none⟩ = some (.int .u8 (ky : Int)) ∧ w'.cell? ⟨b2, o2 + i * 7 + 1, none⟩ = some (.string ⟨dy.name.toArray⟩) ∧ w'.cell? ⟨b2, o2 + i * 7 + 2, none⟩ = some (.int .u8 (dy.op : Int)) ∧ w'.cell? ⟨b2, o2 + i * 7 + 3, none⟩ = some (.int .i64 dy.evr.epoch) ∧ w'.cell? ⟨b2, o2 + i * 7 + 4, none⟩ = some (.string ⟨dy.evr.ver.toArray⟩) ∧ w'.cell? ⟨b2, o2 + i * 7 + 5, none⟩ = some (.string ⟨dy.evr.rel.toArray⟩) ∧ w'.cell? ⟨b2, o2 + i * 7 + 6, none⟩ = some (.slice aq ly.length cy))
            (first | with_reducible exact KS0 | with_reducible exact KS5)
            (first
              | (go_at_call 36; refine (PC _ HKd.out).mono ?_; rintro e w5 ⟨rfl, hk5⟩; have HK5 := Lib.hid (HKd.out.trans hk5 (fun _ _ h => h)); have KS5 := HCJ.out _ HK5.out; clear hk5)
              | fail)
          go_wp2_with fail
          go_ret
          exact ⟨by rw [eqP_no HS2.out]; rfl, HK.out.trans HK5.out (fun _ _ h => h)⟩
      · obtain rfl : i = l.length := by omega
        have hge : ¬ (l.length : Int) < (l.length : Int) := by omega
        have he : l = m := by
          have h := HT.out
          rw [List.take_length, List.take_of_length_le (by have := HL.out; omega)] at h
          exact h
        have HE := Lib.hid (eqP_yes he)
        clear he
        go_wp2_with fail
        go_ret
        exact ⟨by rw [HE.out]; rfl, HK.out⟩
  · have hne : ((l.length : Int) != (m.length : Int)) = true := by simp; omega
    have HE := Lib.hid (show eqP l m = false from eqP_no (fun e => hlm (by rw [e])))
    clear hlm h1 h2
    go_enter Tryd.func24, Tryd.ntmps24
    go_wp2_with fail
    go_ret
    exact ⟨by rw [HE.out]; rfl, Kept.refl _ _⟩
end Go.Proofs.YtlpalepkomkngaaDoor

namespace Go.Proofs.YtlpalepkomkngaaDoor
open Go.RowKit Ver Evr Span Dep Rich

end Go.Proofs.YtlpalepkomkngaaDoor

namespace Go.Proofs.YtlpalepkomkngaaDoor
open Go.RowKit Ver Evr Span Dep Rich

end Go.Proofs.YtlpalepkomkngaaDoor

namespace Go.Proofs.YtlpalepkomkngaaDoor
open Go.RowKit Ver Evr Span Dep Rich

end Go.Proofs.YtlpalepkomkngaaDoor

namespace Go.Proofs.YtlpalepkomkngaaDoor
open Go.RowKit Ver Evr Span Dep Rich

set_option maxRecDepth 100000 in
set_option maxHeartbeats 16000000 in
theorem rsame10_nm (nm : ByteArray) (n : Int) (v r : ByteArray) (a : Nat) (vd : ByteArray) (nm' : ByteArray) (n' : Int) (v' : ByteArray) (r' : ByteArray) (a' : Nat) (vd' : ByteArray) (s4 s5 s6 s7 s8 s9 s10 s11 s12 s4' s5' s6' s7' s8' s9' s10' s11' s12' : Value) (w : World) (hq : nm ≠ nm')
     :
    Calls Tryd.prog 9 #[.agg #[.string nm, .int .i64 n, .string v, .string r, .int .u8 (a : Int), .string vd, s4, s5, s6, s7, s8, s9, s10, s11, s12], .agg #[.string nm', .int .i64 n', .string v', .string r', .int .u8 (a' : Int), .string vd', s4', s5', s6', s7', s8', s9', s10', s11', s12']] w fun e w' => e = .returned (.bool false) ∧ Kept (fun _ => False) w w' := by
  have HX := Lib.hid ((Box.made w 36 #[.string nm, .int .i64 n, .string v, .string r, .int .u8 (a : Int), .string vd, s4, s5, s6, s7, s8, s9, s10, s11, s12]).after_alloc (.cells #[.string nm', .int .i64 n', .string v', .string r', .int .u8 (a' : Int), .string vd', s4', s5', s6', s7', s8', s9', s10', s11', s12'] 36))
  have HY := Lib.hid (show Box ((w.alloc (.cells #[.string nm, .int .i64 n, .string v, .string r, .int .u8 (a : Int), .string vd, s4, s5, s6, s7, s8, s9, s10, s11, s12] 36)).alloc (.cells #[.string nm', .int .i64 n', .string v', .string r', .int .u8 (a' : Int), .string vd', s4', s5', s6', s7', s8', s9', s10', s11', s12'] 36)) (w.heap.size + 1) 36 #[.string nm', .int .i64 n', .string v', .string r', .int .u8 (a' : Int), .string vd', s4', s5', s6', s7', s8', s9', s10', s11', s12'] from by
    have h := Box.made (w.alloc (.cells #[.string nm, .int .i64 n, .string v, .string r, .int .u8 (a : Int), .string vd, s4, s5, s6, s7, s8, s9, s10, s11, s12] 36)) 36 #[.string nm', .int .i64 n', .string v', .string r', .int .u8 (a' : Int), .string vd', s4', s5', s6', s7', s8', s9', s10', s11', s12']
    rw [World.size_alloc] at h
    exact h)
  have HK := Lib.hid (((Kept.refl (fun _ => False) w).alloc (.cells #[.string nm, .int .i64 n, .string v, .string r, .int .u8 (a : Int), .string vd, s4, s5, s6, s7, s8, s9, s10, s11, s12] 36)).alloc (.cells #[.string nm', .int .i64 n', .string v', .string r', .int .u8 (a' : Int), .string vd', s4', s5', s6', s7', s8', s9', s10', s11', s12'] 36))
  have x0 := HX.out.cell 0
  have y0 := HY.out.cell 0
  have q_nm := bytes_ne10 hq
  clear hq
  go_enter Tryd.func9, Tryd.ntmps9
  go_wp2_with (first
    | fail)
  go_ret
  exact ⟨rfl, HK.out⟩
set_option maxRecDepth 100000 in
set_option maxHeartbeats 16000000 in
theorem rsame10_n (nm : ByteArray) (n : Int) (v r : ByteArray) (a : Nat) (vd : ByteArray) (n' : Int) (v' : ByteArray) (r' : ByteArray) (a' : Nat) (vd' : ByteArray) (s4 s5 s6 s7 s8 s9 s10 s11 s12 s4' s5' s6' s7' s8' s9' s10' s11' s12' : Value) (w : World) (hq : n ≠ n')
     :
    Calls Tryd.prog 9 #[.agg #[.string nm, .int .i64 n, .string v, .string r, .int .u8 (a : Int), .string vd, s4, s5, s6, s7, s8, s9, s10, s11, s12], .agg #[.string nm, .int .i64 n', .string v', .string r', .int .u8 (a' : Int), .string vd', s4', s5', s6', s7', s8', s9', s10', s11', s12']] w fun e w' => e = .returned (.bool false) ∧ Kept (fun _ => False) w w' := by
  have HX := Lib.hid ((Box.made w 36 #[.string nm, .int .i64 n, .string v, .string r, .int .u8 (a : Int), .string vd, s4, s5, s6, s7, s8, s9, s10, s11, s12]).after_alloc (.cells #[.string nm, .int .i64 n', .string v', .string r', .int .u8 (a' : Int), .string vd', s4', s5', s6', s7', s8', s9', s10', s11', s12'] 36))
  have HY := Lib.hid (show Box ((w.alloc (.cells #[.string nm, .int .i64 n, .string v, .string r, .int .u8 (a : Int), .string vd, s4, s5, s6, s7, s8, s9, s10, s11, s12] 36)).alloc (.cells #[.string nm, .int .i64 n', .string v', .string r', .int .u8 (a' : Int), .string vd', s4', s5', s6', s7', s8', s9', s10', s11', s12'] 36)) (w.heap.size + 1) 36 #[.string nm, .int .i64 n', .string v', .string r', .int .u8 (a' : Int), .string vd', s4', s5', s6', s7', s8', s9', s10', s11', s12'] from by
    have h := Box.made (w.alloc (.cells #[.string nm, .int .i64 n, .string v, .string r, .int .u8 (a : Int), .string vd, s4, s5, s6, s7, s8, s9, s10, s11, s12] 36)) 36 #[.string nm, .int .i64 n', .string v', .string r', .int .u8 (a' : Int), .string vd', s4', s5', s6', s7', s8', s9', s10', s11', s12']
    rw [World.size_alloc] at h
    exact h)
  have HK := Lib.hid (((Kept.refl (fun _ => False) w).alloc (.cells #[.string nm, .int .i64 n, .string v, .string r, .int .u8 (a : Int), .string vd, s4, s5, s6, s7, s8, s9, s10, s11, s12] 36)).alloc (.cells #[.string nm, .int .i64 n', .string v', .string r', .int .u8 (a' : Int), .string vd', s4', s5', s6', s7', s8', s9', s10', s11', s12'] 36))
  have x0 := HX.out.cell 0
  have y0 := HY.out.cell 0
  have x1 := HX.out.cell 1
  have y1 := HY.out.cell 1
  have x2 := HX.out.cell 2
  have y2 := HY.out.cell 2
  have x3 := HX.out.cell 3
  have y3 := HY.out.cell 3
  have q_nm : (nm.toList == nm.toList) = true := by simp
  have q_n : (n == n') = false := by rw [beq_eq_false_iff_ne]; exact hq
  clear hq
  go_enter Tryd.func9, Tryd.ntmps9
  go_wp2_with (first
    | fail)
  go_ret
  exact ⟨rfl, HK.out⟩
set_option maxRecDepth 100000 in
set_option maxHeartbeats 16000000 in
theorem rsame10_v (nm : ByteArray) (n : Int) (v r : ByteArray) (a : Nat) (vd : ByteArray) (v' : ByteArray) (r' : ByteArray) (a' : Nat) (vd' : ByteArray) (s4 s5 s6 s7 s8 s9 s10 s11 s12 s4' s5' s6' s7' s8' s9' s10' s11' s12' : Value) (w : World) (hq : v ≠ v')
     :
    Calls Tryd.prog 9 #[.agg #[.string nm, .int .i64 n, .string v, .string r, .int .u8 (a : Int), .string vd, s4, s5, s6, s7, s8, s9, s10, s11, s12], .agg #[.string nm, .int .i64 n, .string v', .string r', .int .u8 (a' : Int), .string vd', s4', s5', s6', s7', s8', s9', s10', s11', s12']] w fun e w' => e = .returned (.bool false) ∧ Kept (fun _ => False) w w' := by
  have HX := Lib.hid ((Box.made w 36 #[.string nm, .int .i64 n, .string v, .string r, .int .u8 (a : Int), .string vd, s4, s5, s6, s7, s8, s9, s10, s11, s12]).after_alloc (.cells #[.string nm, .int .i64 n, .string v', .string r', .int .u8 (a' : Int), .string vd', s4', s5', s6', s7', s8', s9', s10', s11', s12'] 36))
  have HY := Lib.hid (show Box ((w.alloc (.cells #[.string nm, .int .i64 n, .string v, .string r, .int .u8 (a : Int), .string vd, s4, s5, s6, s7, s8, s9, s10, s11, s12] 36)).alloc (.cells #[.string nm, .int .i64 n, .string v', .string r', .int .u8 (a' : Int), .string vd', s4', s5', s6', s7', s8', s9', s10', s11', s12'] 36)) (w.heap.size + 1) 36 #[.string nm, .int .i64 n, .string v', .string r', .int .u8 (a' : Int), .string vd', s4', s5', s6', s7', s8', s9', s10', s11', s12'] from by
    have h := Box.made (w.alloc (.cells #[.string nm, .int .i64 n, .string v, .string r, .int .u8 (a : Int), .string vd, s4, s5, s6, s7, s8, s9, s10, s11, s12] 36)) 36 #[.string nm, .int .i64 n, .string v', .string r', .int .u8 (a' : Int), .string vd', s4', s5', s6', s7', s8', s9', s10', s11', s12']
    rw [World.size_alloc] at h
    exact h)
  have HK := Lib.hid (((Kept.refl (fun _ => False) w).alloc (.cells #[.string nm, .int .i64 n, .string v, .string r, .int .u8 (a : Int), .string vd, s4, s5, s6, s7, s8, s9, s10, s11, s12] 36)).alloc (.cells #[.string nm, .int .i64 n, .string v', .string r', .int .u8 (a' : Int), .string vd', s4', s5', s6', s7', s8', s9', s10', s11', s12'] 36))
  have x0 := HX.out.cell 0
  have y0 := HY.out.cell 0
  have x1 := HX.out.cell 1
  have y1 := HY.out.cell 1
  have x2 := HX.out.cell 2
  have y2 := HY.out.cell 2
  have x3 := HX.out.cell 3
  have y3 := HY.out.cell 3
  have q_nm : (nm.toList == nm.toList) = true := by simp
  have q_v := bytes_ne10 hq
  clear hq
  go_enter Tryd.func9, Tryd.ntmps9
  go_wp2_with (first
    | fail)
  go_ret
  exact ⟨rfl, HK.out⟩
set_option maxRecDepth 100000 in
set_option maxHeartbeats 16000000 in
theorem rsame10_r (nm : ByteArray) (n : Int) (v r : ByteArray) (a : Nat) (vd : ByteArray) (r' : ByteArray) (a' : Nat) (vd' : ByteArray) (s4 s5 s6 s7 s8 s9 s10 s11 s12 s4' s5' s6' s7' s8' s9' s10' s11' s12' : Value) (w : World) (hq : r ≠ r')
     :
    Calls Tryd.prog 9 #[.agg #[.string nm, .int .i64 n, .string v, .string r, .int .u8 (a : Int), .string vd, s4, s5, s6, s7, s8, s9, s10, s11, s12], .agg #[.string nm, .int .i64 n, .string v, .string r', .int .u8 (a' : Int), .string vd', s4', s5', s6', s7', s8', s9', s10', s11', s12']] w fun e w' => e = .returned (.bool false) ∧ Kept (fun _ => False) w w' := by
  have HX := Lib.hid ((Box.made w 36 #[.string nm, .int .i64 n, .string v, .string r, .int .u8 (a : Int), .string vd, s4, s5, s6, s7, s8, s9, s10, s11, s12]).after_alloc (.cells #[.string nm, .int .i64 n, .string v, .string r', .int .u8 (a' : Int), .string vd', s4', s5', s6', s7', s8', s9', s10', s11', s12'] 36))
  have HY := Lib.hid (show Box ((w.alloc (.cells #[.string nm, .int .i64 n, .string v, .string r, .int .u8 (a : Int), .string vd, s4, s5, s6, s7, s8, s9, s10, s11, s12] 36)).alloc (.cells #[.string nm, .int .i64 n, .string v, .string r', .int .u8 (a' : Int), .string vd', s4', s5', s6', s7', s8', s9', s10', s11', s12'] 36)) (w.heap.size + 1) 36 #[.string nm, .int .i64 n, .string v, .string r', .int .u8 (a' : Int), .string vd', s4', s5', s6', s7', s8', s9', s10', s11', s12'] from by
    have h := Box.made (w.alloc (.cells #[.string nm, .int .i64 n, .string v, .string r, .int .u8 (a : Int), .string vd, s4, s5, s6, s7, s8, s9, s10, s11, s12] 36)) 36 #[.string nm, .int .i64 n, .string v, .string r', .int .u8 (a' : Int), .string vd', s4', s5', s6', s7', s8', s9', s10', s11', s12']
    rw [World.size_alloc] at h
    exact h)
  have HK := Lib.hid (((Kept.refl (fun _ => False) w).alloc (.cells #[.string nm, .int .i64 n, .string v, .string r, .int .u8 (a : Int), .string vd, s4, s5, s6, s7, s8, s9, s10, s11, s12] 36)).alloc (.cells #[.string nm, .int .i64 n, .string v, .string r', .int .u8 (a' : Int), .string vd', s4', s5', s6', s7', s8', s9', s10', s11', s12'] 36))
  have x0 := HX.out.cell 0
  have y0 := HY.out.cell 0
  have x1 := HX.out.cell 1
  have y1 := HY.out.cell 1
  have x2 := HX.out.cell 2
  have y2 := HY.out.cell 2
  have x3 := HX.out.cell 3
  have y3 := HY.out.cell 3
  have q_nm : (nm.toList == nm.toList) = true := by simp
  have q_v : (v.toList == v.toList) = true := by simp
  have q_r := bytes_ne10 hq
  clear hq
  go_enter Tryd.func9, Tryd.ntmps9
  go_wp2_with (first
    | fail)
  go_ret
  exact ⟨rfl, HK.out⟩
set_option maxRecDepth 100000 in
set_option maxHeartbeats 16000000 in
theorem rsame10_a (nm : ByteArray) (n : Int) (v r : ByteArray) (a : Nat) (vd : ByteArray) (a' : Nat) (vd' : ByteArray) (s4 s5 s6 s7 s8 s9 s10 s11 s12 s4' s5' s6' s7' s8' s9' s10' s11' s12' : Value) (w : World) (hq : a ≠ a')
     :
    Calls Tryd.prog 9 #[.agg #[.string nm, .int .i64 n, .string v, .string r, .int .u8 (a : Int), .string vd, s4, s5, s6, s7, s8, s9, s10, s11, s12], .agg #[.string nm, .int .i64 n, .string v, .string r, .int .u8 (a' : Int), .string vd', s4', s5', s6', s7', s8', s9', s10', s11', s12']] w fun e w' => e = .returned (.bool false) ∧ Kept (fun _ => False) w w' := by
  have HX := Lib.hid ((Box.made w 36 #[.string nm, .int .i64 n, .string v, .string r, .int .u8 (a : Int), .string vd, s4, s5, s6, s7, s8, s9, s10, s11, s12]).after_alloc (.cells #[.string nm, .int .i64 n, .string v, .string r, .int .u8 (a' : Int), .string vd', s4', s5', s6', s7', s8', s9', s10', s11', s12'] 36))
  have HY := Lib.hid (show Box ((w.alloc (.cells #[.string nm, .int .i64 n, .string v, .string r, .int .u8 (a : Int), .string vd, s4, s5, s6, s7, s8, s9, s10, s11, s12] 36)).alloc (.cells #[.string nm, .int .i64 n, .string v, .string r, .int .u8 (a' : Int), .string vd', s4', s5', s6', s7', s8', s9', s10', s11', s12'] 36)) (w.heap.size + 1) 36 #[.string nm, .int .i64 n, .string v, .string r, .int .u8 (a' : Int), .string vd', s4', s5', s6', s7', s8', s9', s10', s11', s12'] from by
    have h := Box.made (w.alloc (.cells #[.string nm, .int .i64 n, .string v, .string r, .int .u8 (a : Int), .string vd, s4, s5, s6, s7, s8, s9, s10, s11, s12] 36)) 36 #[.string nm, .int .i64 n, .string v, .string r, .int .u8 (a' : Int), .string vd', s4', s5', s6', s7', s8', s9', s10', s11', s12']
    rw [World.size_alloc] at h
    exact h)
  have HK := Lib.hid (((Kept.refl (fun _ => False) w).alloc (.cells #[.string nm, .int .i64 n, .string v, .string r, .int .u8 (a : Int), .string vd, s4, s5, s6, s7, s8, s9, s10, s11, s12] 36)).alloc (.cells #[.string nm, .int .i64 n, .string v, .string r, .int .u8 (a' : Int), .string vd', s4', s5', s6', s7', s8', s9', s10', s11', s12'] 36))
  have x0 := HX.out.cell 0
  have y0 := HY.out.cell 0
  have x1 := HX.out.cell 1
  have y1 := HY.out.cell 1
  have x2 := HX.out.cell 2
  have y2 := HY.out.cell 2
  have x3 := HX.out.cell 3
  have y3 := HY.out.cell 3
  have x4 := HX.out.cell 4
  have y4 := HY.out.cell 4
  have q_nm : (nm.toList == nm.toList) = true := by simp
  have q_v : (v.toList == v.toList) = true := by simp
  have q_r : (r.toList == r.toList) = true := by simp
  have q_a : ((a : Int) == (a' : Int)) = false := by rw [beq_eq_false_iff_ne]; omega
  clear hq
  go_enter Tryd.func9, Tryd.ntmps9
  go_wp2_with (first
    | fail)
  go_ret
  exact ⟨rfl, HK.out⟩
set_option maxRecDepth 100000 in
set_option maxHeartbeats 16000000 in
theorem rsame10_vd (nm : ByteArray) (n : Int) (v r : ByteArray) (a : Nat) (vd : ByteArray) (vd' : ByteArray) (s4 s5 s6 s7 s8 s9 s10 s11 s12 s4' s5' s6' s7' s8' s9' s10' s11' s12' : Value) (w : World) (hq : vd ≠ vd')
     :
    Calls Tryd.prog 9 #[.agg #[.string nm, .int .i64 n, .string v, .string r, .int .u8 (a : Int), .string vd, s4, s5, s6, s7, s8, s9, s10, s11, s12], .agg #[.string nm, .int .i64 n, .string v, .string r, .int .u8 (a : Int), .string vd', s4', s5', s6', s7', s8', s9', s10', s11', s12']] w fun e w' => e = .returned (.bool false) ∧ Kept (fun _ => False) w w' := by
  have HX := Lib.hid ((Box.made w 36 #[.string nm, .int .i64 n, .string v, .string r, .int .u8 (a : Int), .string vd, s4, s5, s6, s7, s8, s9, s10, s11, s12]).after_alloc (.cells #[.string nm, .int .i64 n, .string v, .string r, .int .u8 (a : Int), .string vd', s4', s5', s6', s7', s8', s9', s10', s11', s12'] 36))
  have HY := Lib.hid (show Box ((w.alloc (.cells #[.string nm, .int .i64 n, .string v, .string r, .int .u8 (a : Int), .string vd, s4, s5, s6, s7, s8, s9, s10, s11, s12] 36)).alloc (.cells #[.string nm, .int .i64 n, .string v, .string r, .int .u8 (a : Int), .string vd', s4', s5', s6', s7', s8', s9', s10', s11', s12'] 36)) (w.heap.size + 1) 36 #[.string nm, .int .i64 n, .string v, .string r, .int .u8 (a : Int), .string vd', s4', s5', s6', s7', s8', s9', s10', s11', s12'] from by
    have h := Box.made (w.alloc (.cells #[.string nm, .int .i64 n, .string v, .string r, .int .u8 (a : Int), .string vd, s4, s5, s6, s7, s8, s9, s10, s11, s12] 36)) 36 #[.string nm, .int .i64 n, .string v, .string r, .int .u8 (a : Int), .string vd', s4', s5', s6', s7', s8', s9', s10', s11', s12']
    rw [World.size_alloc] at h
    exact h)
  have HK := Lib.hid (((Kept.refl (fun _ => False) w).alloc (.cells #[.string nm, .int .i64 n, .string v, .string r, .int .u8 (a : Int), .string vd, s4, s5, s6, s7, s8, s9, s10, s11, s12] 36)).alloc (.cells #[.string nm, .int .i64 n, .string v, .string r, .int .u8 (a : Int), .string vd', s4', s5', s6', s7', s8', s9', s10', s11', s12'] 36))
  have x0 := HX.out.cell 0
  have y0 := HY.out.cell 0
  have x1 := HX.out.cell 1
  have y1 := HY.out.cell 1
  have x2 := HX.out.cell 2
  have y2 := HY.out.cell 2
  have x3 := HX.out.cell 3
  have y3 := HY.out.cell 3
  have x4 := HX.out.cell 4
  have y4 := HY.out.cell 4
  have x5 := HX.out.cell 5
  have y5 := HY.out.cell 5
  have q_nm : (nm.toList == nm.toList) = true := by simp
  have q_v : (v.toList == v.toList) = true := by simp
  have q_r : (r.toList == r.toList) = true := by simp
  have q_vd := bytes_ne10 hq
  clear hq
  go_enter Tryd.func9, Tryd.ntmps9
  go_wp2_with (first
    | fail)
  go_ret
  exact ⟨rfl, HK.out⟩
end Go.Proofs.YtlpalepkomkngaaDoor
