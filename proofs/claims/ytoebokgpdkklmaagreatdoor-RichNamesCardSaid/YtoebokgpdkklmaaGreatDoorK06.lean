/-
  The walk over the document's part (layer 8). Conditions: as each theorem states.
-/
import Derived.Test.YtoebokgpdkklmaaGreatDoorK05
import Derived.Test.YtoebokgpdkklmaaGreatDoorRows
import Derived.Handy
import Derived.Lib.Hide
import Derived.LoopN
import Derived.Deep.QuietTactic
import Derived.WalkKit
namespace Go.Proofs.YtoebokgpdkklmaaGreatDoor
open Go.RowKit Rich

/-- What the document's May (layer 6) answers, in worlds that keep what w0 has. -/
def MayR8 (w0 : World) : Prop := ∀ (d : Dep.D) (w : World), d.op < 256 → d.name.length ≤ 1000 → d.evr.ver.length ≤ 1000 → d.evr.rel.length ≤ 1000 → Kept (fun _ => False) w0 w →
  Calls Tryz.prog 39 #[.agg #[.string ⟨d.name.toArray⟩, .int .u8 (d.op : Int), .int .i64 d.evr.epoch, .string ⟨d.evr.ver.toArray⟩, .string ⟨d.evr.rel.toArray⟩]] w fun e w' => e = .returned (.bool (Dep.mayD d)) ∧ Kept (fun _ => False) w w'
theorem dep_zero (d : Dep.D) (W : World) : (binOp .eql 25 (.agg #[.string ⟨d.name.toArray⟩, .int .u8 (d.op : Int), .int .i64 d.evr.epoch, .string ⟨d.evr.ver.toArray⟩, .string ⟨d.evr.rel.toArray⟩]) (.agg #[.string ⟨#[]⟩, .int .u8 0, .int .i64 0, .string ⟨#[]⟩, .string ⟨#[]⟩])).run Tryz.prog W = .ok (.bool (noD d)) W := by
  obtain ⟨n, o, ⟨e, v, r⟩⟩ := d
  simp [go_sem, noD, Dep.noE]
  by_cases h1 : n = []
  · by_cases h2 : o = 0
    · by_cases h3 : e = 0
      · by_cases h4 : v = []
        · by_cases h5 : r = [] <;> simp [h1, h2, h3, h4, h5]
        · simp [h1, h2, h3, h4]
      · simp [h1, h2, h3]
    · simp [h1, h2]
  · simp [h1]
theorem allP_take_no {l : List R} {i : Nat} {x : R} (hx : l[i]? = some x) (h : Rich.part x = false) : allP l = false := by
  cases ha : allP l with
  | false => rfl
  | true =>
    have key : ∀ {l : List R}, allP l = true → ∀ y ∈ l, Rich.part y = true := by
      intro l
      induction l with
      | nil => intro _ y hy; simp at hy
      | cons z l ih =>
        intro hl y hy
        rw [allP, Bool.and_eq_true] at hl
        rcases List.mem_cons.1 hy with rfl | hy
        · exact hl.1
        · exact ih hl.2 y hy
    rw [key ha x (List.mem_of_getElem? hx)] at h
    cases h
theorem allP_take_yes : ∀ {l : List R}, (∀ x ∈ l, Rich.part x = true) → allP l = true
  | [], _ => by rw [allP]
  | x :: l, h => by rw [allP, h x (by simp), allP_take_yes (fun y hy => h y (by simp [hy]))]; rfl
set_option maxRecDepth 100000 in
set_option maxHeartbeats 4000000 in
theorem part8_walk : ∀ (x : R) (v : Value) (w : World), MayR8 w → RichS w x v → smallX x →
    Calls Tryz.prog 24 #[v] w fun e w' => e = .returned (.bool (Rich.part x)) ∧ Kept (fun _ => False) w w' := by
  have main : ∀ (w0 : World), MayR8 w0 → ∀ (x : R) (v : Value) (w : World), Kept (fun _ => False) w0 w → RichS w x v → smallX x → Calls Tryz.prog 24 #[v] w fun e w' => e = .returned (.bool (Rich.part x)) ∧ Kept (fun _ => False) w w' := by
    intro w0 hMay
    refine R.ind fun k d l ih v w hw hr hs => ?_
    rw [RichS] at hr
    obtain ⟨ao, cp, rfl, hk, ho, hA⟩ := hr
    rw [smallX] at hs
    obtain ⟨s1, s2, s3, s4⟩ := hs
    have MC := fun W (hk : Kept (fun _ => False) w W) => hMay d W ho (by omega) (by omega) (by omega) (hw.trans hk (fun _ _ h => h))
    have HI := Lib.hid ih
    have HA := Lib.hid hA
    have HMw := Lib.hid hw
    have HSL := Lib.hid s4
    have HB := Lib.hid (Box.made w 28 (richA k d (.slice ao l.length cp)))
    clear ih hA hw hMay s4 ho s1 s2
    by_cases hk1 : k = 1
    · subst hk1
      have hp : Rich.part (.mk 1 d l) = (Dep.mayD d && l.isEmpty) := by rw [Rich.part, if_pos rfl]
      cases hm : Dep.mayD d with
      | false =>
        have HF := Lib.hid (show Rich.part (.mk 1 d l) = false by rw [hp, hm, Bool.false_and])
        rw [hm] at MC
        clear hp hm HI
        go_enter Tryz.func24, Tryz.ntmps24
        go_wp2_with (first
          | (go_at_call 39; refine (MC _ ((Kept.refl _ _).alloc _)).mono ?_; rintro e w5 ⟨rfl, hk5⟩; have b6 : w5.cell? ⟨w.heap.size, 6, none⟩ = some (.slice ao l.length cp) := (hk5.box HB.out (fun h => h)).cell 6)
          | fail)
        go_ret
        exact ⟨by rw [HF.out]; rfl, ((Kept.refl _ _).alloc _).trans hk5 (fun _ _ h => h)⟩
      | true =>
        rw [hm] at MC
        by_cases hl : l.length = 0
        · have HF := Lib.hid (show Rich.part (.mk 1 d l) = true by rw [hp, hm, List.length_eq_zero_iff.1 hl]; rfl)
          have hlb : ((l.length : Int) == 0) = true := by rw [hl]; rfl
          clear hp hm HI hl
          go_enter Tryz.func24, Tryz.ntmps24
          go_wp2_with (first
            | (go_at_call 39; refine (MC _ ((Kept.refl _ _).alloc _)).mono ?_; rintro e w5 ⟨rfl, hk5⟩; have b6 : w5.cell? ⟨w.heap.size, 6, none⟩ = some (.slice ao l.length cp) := (hk5.box HB.out (fun h => h)).cell 6)
            | fail)
          go_ret
          exact ⟨by rw [HF.out]; rfl, ((Kept.refl _ _).alloc _).trans hk5 (fun _ _ h => h)⟩
        · have HF := Lib.hid (show Rich.part (.mk 1 d l) = false by
            rw [hp, hm]
            cases l with
            | nil => simp at hl
            | cons y l => rfl)
          have hlb : ((l.length : Int) == 0) = false := beq_eq_false_iff_ne.2 (by omega)
          clear hp hm HI hl
          go_enter Tryz.func24, Tryz.ntmps24
          go_wp2_with (first
            | (go_at_call 39; refine (MC _ ((Kept.refl _ _).alloc _)).mono ?_; rintro e w5 ⟨rfl, hk5⟩; have b6 : w5.cell? ⟨w.heap.size, 6, none⟩ = some (.slice ao l.length cp) := (hk5.box HB.out (fun h => h)).cell 6)
            | fail)
          go_ret
          exact ⟨by rw [HF.out]; rfl, ((Kept.refl _ _).alloc _).trans hk5 (fun _ _ h => h)⟩
    · have HP := Lib.hid (show Rich.part (.mk k d l) = (okN k l.length && allP l && noD d) by rw [Rich.part, if_neg hk1])
      have e1 : ((k : Int) == 1) = false := by simp; omega
      have hcase : k = 2 ∨ k = 3 ∨ k = 6 ∨ k = 4 ∨ k = 5 ∨ k = 7 ∨ (k ≠ 2 ∧ k ≠ 3 ∧ k ≠ 6 ∧ k ≠ 4 ∧ k ≠ 5 ∧ k ≠ 7) := by omega
      clear MC
      rcases hcase with hc | hc | hc | hc | hc | hc | ⟨h2, h3, h6, h4, h5, h7⟩
      · have e2 : ((k : Int) == 2) = true := by simp; omega
        by_cases hn : l.length < 2
        · have HF := Lib.hid (show Rich.part (.mk k d l) = false by rw [HP.out, hc]; simp [okN]; omega)
          have hnI : (l.length : Int) < 2 := by omega
          clear hc hn HI
          go_enter Tryz.func24, Tryz.ntmps24
          go_wp2_with fail
          go_ret
          exact ⟨by rw [HF.out]; rfl, (Kept.refl _ _).alloc _⟩
        · have HOK := Lib.hid (show okN k l.length = true by rw [hc]; simp [okN]; omega)
          have hnI : ¬ (l.length : Int) < 2 := by omega
          clear hc hn
          go_enter Tryz.func24, Tryz.ntmps24
          go_wp2_with fail
          go_loopw [4] (fun v4 wr => ∃ (i : Nat), v4 = .int .i64 (i : Int) ∧ i ≤ l.length ∧ Hid (∀ y ∈ l.take i, Rich.part y = true) ∧ Hid (Box wr w.heap.size 28 (richA k d (.slice ao l.length cp))) ∧ Hid (Kept (fun _ => False) w wr)) (fun v4 _ => l.length - (intOf v4).toNat)
          case atStart => exact ⟨0, rfl, Nat.zero_le _, Lib.hid (by simp), HB, Lib.hid ((Kept.refl _ _).alloc _)⟩
          case round =>
            obtain ⟨i, rfl, hi, HPi, HBr, HK⟩ := hrel
            rename World => wr
            have b1 : wr.cell? ⟨w.heap.size, 1, none⟩ = some (.string ⟨d.name.toArray⟩) := HBr.out.cell 1
            have b2 : wr.cell? ⟨w.heap.size, 2, none⟩ = some (.int .u8 (d.op : Int)) := HBr.out.cell 2
            have b3 : wr.cell? ⟨w.heap.size, 3, none⟩ = some (.int .i64 d.evr.epoch) := HBr.out.cell 3
            have b4 : wr.cell? ⟨w.heap.size, 4, none⟩ = some (.string ⟨d.evr.ver.toArray⟩) := HBr.out.cell 4
            have b5 : wr.cell? ⟨w.heap.size, 5, none⟩ = some (.string ⟨d.evr.rel.toArray⟩) := HBr.out.cell 5
            have b6 : wr.cell? ⟨w.heap.size, 6, none⟩ = some (.slice ao l.length cp) := HBr.out.cell 6
            by_cases hlt : i < l.length
            · obtain ⟨x, hx⟩ : ∃ x, l[i]? = some x := ⟨_, List.getElem?_eq_getElem hlt⟩
              obtain ⟨b, off, ao', cp', rfl, hb, hrx, d0, d1, d2, d3, d4, d5, d6⟩ := (ArgS.kept HK.out ao 0 l HA.out).part hx
              have PC := HI.out x (List.mem_of_getElem? hx) _ wr (HMw.out.trans HK.out (fun _ _ h => h)) hrx (smallL_mem HSL.out (List.mem_of_getElem? hx))
              have hi0 : (0 : Int) ≤ (i : Int) := by omega
              have hiI : (i : Int) < (l.length : Int) := by omega
              by_cases hpx : Rich.part x = true
              · have HN := Lib.hid (show ∀ y ∈ l.take (i + 1), Rich.part y = true by
                  intro y hy
                  rw [List.take_add_one, hx] at hy
                  rcases List.mem_append.1 hy with h | h
                  · exact HPi.out y h
                  · simp at h; rw [h]; exact hpx)
                rw [hpx] at PC
                clear hx hrx hpx
                go_wp2_with (first
                  | (go_at_call 24; refine PC.mono ?_; rintro e w5 ⟨rfl, hk5⟩; have HK := Lib.hid (Kept.trans HK.out hk5 (fun _ _ h => h)); have HBr := Lib.hid (hk5.box HBr.out (fun h => h)); clear hk5)
                  | fail)
                go_roundw
                case rel => exact ⟨i + 1, by go_num, by omega, HN, HBr, HK⟩
                case measure => simp [intOf]; omega
              · rw [Bool.not_eq_true] at hpx
                have HF := Lib.hid (show Rich.part (.mk k d l) = false by rw [HP.out, allP_take_no hx hpx, Bool.and_false, Bool.false_and])
                rw [hpx] at PC
                clear hx hrx hpx
                go_wp2_with (first
                  | (go_at_call 24; refine PC.mono ?_; rintro e w5 ⟨rfl, hk5⟩; have HK := Lib.hid (Kept.trans HK.out hk5 (fun _ _ h => h)); clear hk5)
                  | fail)
                go_ret
                exact ⟨by rw [HF.out]; rfl, HK.out⟩
            · have hge : ¬ (i : Int) < (l.length : Int) := by omega
              have HF := Lib.hid (show Rich.part (.mk k d l) = noD d by
                have hall : allP l = true := allP_take_yes (by have h := HPi.out; rw [List.take_of_length_le (by omega)] at h; exact h)
                rw [HP.out, HOK.out, hall, Bool.and_true, Bool.true_and])
              have hq := dep_zero d
              generalize d.name = dn at *
              generalize d.op = dop at *
              generalize d.evr.epoch = dep at *
              generalize d.evr.ver = dv at *
              generalize d.evr.rel = dr at *
              generalize noD d = nd at *
              go_wp2_with fail
              all_goals go_ret
              all_goals exact ⟨by rw [HF.out]; rfl, HK.out⟩
      · have e2 : ((k : Int) == 2) = false := by simp; omega
        have e3 : ((k : Int) == 3) = true := by simp; omega
        by_cases hn : l.length < 2
        · have HF := Lib.hid (show Rich.part (.mk k d l) = false by rw [HP.out, hc]; simp [okN]; omega)
          have hnI : (l.length : Int) < 2 := by omega
          clear hc hn HI
          go_enter Tryz.func24, Tryz.ntmps24
          go_wp2_with fail
          go_ret
          exact ⟨by rw [HF.out]; rfl, (Kept.refl _ _).alloc _⟩
        · have HOK := Lib.hid (show okN k l.length = true by rw [hc]; simp [okN]; omega)
          have hnI : ¬ (l.length : Int) < 2 := by omega
          clear hc hn
          go_enter Tryz.func24, Tryz.ntmps24
          go_wp2_with fail
          go_loopw [4] (fun v4 wr => ∃ (i : Nat), v4 = .int .i64 (i : Int) ∧ i ≤ l.length ∧ Hid (∀ y ∈ l.take i, Rich.part y = true) ∧ Hid (Box wr w.heap.size 28 (richA k d (.slice ao l.length cp))) ∧ Hid (Kept (fun _ => False) w wr)) (fun v4 _ => l.length - (intOf v4).toNat)
          case atStart => exact ⟨0, rfl, Nat.zero_le _, Lib.hid (by simp), HB, Lib.hid ((Kept.refl _ _).alloc _)⟩
          case round =>
            obtain ⟨i, rfl, hi, HPi, HBr, HK⟩ := hrel
            rename World => wr
            have b1 : wr.cell? ⟨w.heap.size, 1, none⟩ = some (.string ⟨d.name.toArray⟩) := HBr.out.cell 1
            have b2 : wr.cell? ⟨w.heap.size, 2, none⟩ = some (.int .u8 (d.op : Int)) := HBr.out.cell 2
            have b3 : wr.cell? ⟨w.heap.size, 3, none⟩ = some (.int .i64 d.evr.epoch) := HBr.out.cell 3
            have b4 : wr.cell? ⟨w.heap.size, 4, none⟩ = some (.string ⟨d.evr.ver.toArray⟩) := HBr.out.cell 4
            have b5 : wr.cell? ⟨w.heap.size, 5, none⟩ = some (.string ⟨d.evr.rel.toArray⟩) := HBr.out.cell 5
            have b6 : wr.cell? ⟨w.heap.size, 6, none⟩ = some (.slice ao l.length cp) := HBr.out.cell 6
            by_cases hlt : i < l.length
            · obtain ⟨x, hx⟩ : ∃ x, l[i]? = some x := ⟨_, List.getElem?_eq_getElem hlt⟩
              obtain ⟨b, off, ao', cp', rfl, hb, hrx, d0, d1, d2, d3, d4, d5, d6⟩ := (ArgS.kept HK.out ao 0 l HA.out).part hx
              have PC := HI.out x (List.mem_of_getElem? hx) _ wr (HMw.out.trans HK.out (fun _ _ h => h)) hrx (smallL_mem HSL.out (List.mem_of_getElem? hx))
              have hi0 : (0 : Int) ≤ (i : Int) := by omega
              have hiI : (i : Int) < (l.length : Int) := by omega
              by_cases hpx : Rich.part x = true
              · have HN := Lib.hid (show ∀ y ∈ l.take (i + 1), Rich.part y = true by
                  intro y hy
                  rw [List.take_add_one, hx] at hy
                  rcases List.mem_append.1 hy with h | h
                  · exact HPi.out y h
                  · simp at h; rw [h]; exact hpx)
                rw [hpx] at PC
                clear hx hrx hpx
                go_wp2_with (first
                  | (go_at_call 24; refine PC.mono ?_; rintro e w5 ⟨rfl, hk5⟩; have HK := Lib.hid (Kept.trans HK.out hk5 (fun _ _ h => h)); have HBr := Lib.hid (hk5.box HBr.out (fun h => h)); clear hk5)
                  | fail)
                go_roundw
                case rel => exact ⟨i + 1, by go_num, by omega, HN, HBr, HK⟩
                case measure => simp [intOf]; omega
              · rw [Bool.not_eq_true] at hpx
                have HF := Lib.hid (show Rich.part (.mk k d l) = false by rw [HP.out, allP_take_no hx hpx, Bool.and_false, Bool.false_and])
                rw [hpx] at PC
                clear hx hrx hpx
                go_wp2_with (first
                  | (go_at_call 24; refine PC.mono ?_; rintro e w5 ⟨rfl, hk5⟩; have HK := Lib.hid (Kept.trans HK.out hk5 (fun _ _ h => h)); clear hk5)
                  | fail)
                go_ret
                exact ⟨by rw [HF.out]; rfl, HK.out⟩
            · have hge : ¬ (i : Int) < (l.length : Int) := by omega
              have HF := Lib.hid (show Rich.part (.mk k d l) = noD d by
                have hall : allP l = true := allP_take_yes (by have h := HPi.out; rw [List.take_of_length_le (by omega)] at h; exact h)
                rw [HP.out, HOK.out, hall, Bool.and_true, Bool.true_and])
              have hq := dep_zero d
              generalize d.name = dn at *
              generalize d.op = dop at *
              generalize d.evr.epoch = dep at *
              generalize d.evr.ver = dv at *
              generalize d.evr.rel = dr at *
              generalize noD d = nd at *
              go_wp2_with fail
              all_goals go_ret
              all_goals exact ⟨by rw [HF.out]; rfl, HK.out⟩
      · have e2 : ((k : Int) == 2) = false := by simp; omega
        have e3 : ((k : Int) == 3) = false := by simp; omega
        have e6 : ((k : Int) == 6) = true := by simp; omega
        by_cases hn : l.length < 2
        · have HF := Lib.hid (show Rich.part (.mk k d l) = false by rw [HP.out, hc]; simp [okN]; omega)
          have hnI : (l.length : Int) < 2 := by omega
          clear hc hn HI
          go_enter Tryz.func24, Tryz.ntmps24
          go_wp2_with fail
          go_ret
          exact ⟨by rw [HF.out]; rfl, (Kept.refl _ _).alloc _⟩
        · have HOK := Lib.hid (show okN k l.length = true by rw [hc]; simp [okN]; omega)
          have hnI : ¬ (l.length : Int) < 2 := by omega
          clear hc hn
          go_enter Tryz.func24, Tryz.ntmps24
          go_wp2_with fail
          go_loopw [4] (fun v4 wr => ∃ (i : Nat), v4 = .int .i64 (i : Int) ∧ i ≤ l.length ∧ Hid (∀ y ∈ l.take i, Rich.part y = true) ∧ Hid (Box wr w.heap.size 28 (richA k d (.slice ao l.length cp))) ∧ Hid (Kept (fun _ => False) w wr)) (fun v4 _ => l.length - (intOf v4).toNat)
          case atStart => exact ⟨0, rfl, Nat.zero_le _, Lib.hid (by simp), HB, Lib.hid ((Kept.refl _ _).alloc _)⟩
          case round =>
            obtain ⟨i, rfl, hi, HPi, HBr, HK⟩ := hrel
            rename World => wr
            have b1 : wr.cell? ⟨w.heap.size, 1, none⟩ = some (.string ⟨d.name.toArray⟩) := HBr.out.cell 1
            have b2 : wr.cell? ⟨w.heap.size, 2, none⟩ = some (.int .u8 (d.op : Int)) := HBr.out.cell 2
            have b3 : wr.cell? ⟨w.heap.size, 3, none⟩ = some (.int .i64 d.evr.epoch) := HBr.out.cell 3
            have b4 : wr.cell? ⟨w.heap.size, 4, none⟩ = some (.string ⟨d.evr.ver.toArray⟩) := HBr.out.cell 4
            have b5 : wr.cell? ⟨w.heap.size, 5, none⟩ = some (.string ⟨d.evr.rel.toArray⟩) := HBr.out.cell 5
            have b6 : wr.cell? ⟨w.heap.size, 6, none⟩ = some (.slice ao l.length cp) := HBr.out.cell 6
            by_cases hlt : i < l.length
            · obtain ⟨x, hx⟩ : ∃ x, l[i]? = some x := ⟨_, List.getElem?_eq_getElem hlt⟩
              obtain ⟨b, off, ao', cp', rfl, hb, hrx, d0, d1, d2, d3, d4, d5, d6⟩ := (ArgS.kept HK.out ao 0 l HA.out).part hx
              have PC := HI.out x (List.mem_of_getElem? hx) _ wr (HMw.out.trans HK.out (fun _ _ h => h)) hrx (smallL_mem HSL.out (List.mem_of_getElem? hx))
              have hi0 : (0 : Int) ≤ (i : Int) := by omega
              have hiI : (i : Int) < (l.length : Int) := by omega
              by_cases hpx : Rich.part x = true
              · have HN := Lib.hid (show ∀ y ∈ l.take (i + 1), Rich.part y = true by
                  intro y hy
                  rw [List.take_add_one, hx] at hy
                  rcases List.mem_append.1 hy with h | h
                  · exact HPi.out y h
                  · simp at h; rw [h]; exact hpx)
                rw [hpx] at PC
                clear hx hrx hpx
                go_wp2_with (first
                  | (go_at_call 24; refine PC.mono ?_; rintro e w5 ⟨rfl, hk5⟩; have HK := Lib.hid (Kept.trans HK.out hk5 (fun _ _ h => h)); have HBr := Lib.hid (hk5.box HBr.out (fun h => h)); clear hk5)
                  | fail)
                go_roundw
                case rel => exact ⟨i + 1, by go_num, by omega, HN, HBr, HK⟩
                case measure => simp [intOf]; omega
              · rw [Bool.not_eq_true] at hpx
                have HF := Lib.hid (show Rich.part (.mk k d l) = false by rw [HP.out, allP_take_no hx hpx, Bool.and_false, Bool.false_and])
                rw [hpx] at PC
                clear hx hrx hpx
                go_wp2_with (first
                  | (go_at_call 24; refine PC.mono ?_; rintro e w5 ⟨rfl, hk5⟩; have HK := Lib.hid (Kept.trans HK.out hk5 (fun _ _ h => h)); clear hk5)
                  | fail)
                go_ret
                exact ⟨by rw [HF.out]; rfl, HK.out⟩
            · have hge : ¬ (i : Int) < (l.length : Int) := by omega
              have HF := Lib.hid (show Rich.part (.mk k d l) = noD d by
                have hall : allP l = true := allP_take_yes (by have h := HPi.out; rw [List.take_of_length_le (by omega)] at h; exact h)
                rw [HP.out, HOK.out, hall, Bool.and_true, Bool.true_and])
              have hq := dep_zero d
              generalize d.name = dn at *
              generalize d.op = dop at *
              generalize d.evr.epoch = dep at *
              generalize d.evr.ver = dv at *
              generalize d.evr.rel = dr at *
              generalize noD d = nd at *
              go_wp2_with fail
              all_goals go_ret
              all_goals exact ⟨by rw [HF.out]; rfl, HK.out⟩
      · have e2 : ((k : Int) == 2) = false := by simp; omega
        have e3 : ((k : Int) == 3) = false := by simp; omega
        have e6 : ((k : Int) == 6) = false := by simp; omega
        have e4 : ((k : Int) == 4) = true := by simp; omega
        by_cases hn : l.length = 2
        · have HOK := Lib.hid (show okN k l.length = true by rw [hc, hn]; rfl)
          have hnI : ((l.length : Int) != 2) = false := by simp; omega
          clear hc hn
          go_enter Tryz.func24, Tryz.ntmps24
          go_wp2_with fail
          go_loopw [4] (fun v4 wr => ∃ (i : Nat), v4 = .int .i64 (i : Int) ∧ i ≤ l.length ∧ Hid (∀ y ∈ l.take i, Rich.part y = true) ∧ Hid (Box wr w.heap.size 28 (richA k d (.slice ao l.length cp))) ∧ Hid (Kept (fun _ => False) w wr)) (fun v4 _ => l.length - (intOf v4).toNat)
          case atStart => exact ⟨0, rfl, Nat.zero_le _, Lib.hid (by simp), HB, Lib.hid ((Kept.refl _ _).alloc _)⟩
          case round =>
            obtain ⟨i, rfl, hi, HPi, HBr, HK⟩ := hrel
            rename World => wr
            have b1 : wr.cell? ⟨w.heap.size, 1, none⟩ = some (.string ⟨d.name.toArray⟩) := HBr.out.cell 1
            have b2 : wr.cell? ⟨w.heap.size, 2, none⟩ = some (.int .u8 (d.op : Int)) := HBr.out.cell 2
            have b3 : wr.cell? ⟨w.heap.size, 3, none⟩ = some (.int .i64 d.evr.epoch) := HBr.out.cell 3
            have b4 : wr.cell? ⟨w.heap.size, 4, none⟩ = some (.string ⟨d.evr.ver.toArray⟩) := HBr.out.cell 4
            have b5 : wr.cell? ⟨w.heap.size, 5, none⟩ = some (.string ⟨d.evr.rel.toArray⟩) := HBr.out.cell 5
            have b6 : wr.cell? ⟨w.heap.size, 6, none⟩ = some (.slice ao l.length cp) := HBr.out.cell 6
            by_cases hlt : i < l.length
            · obtain ⟨x, hx⟩ : ∃ x, l[i]? = some x := ⟨_, List.getElem?_eq_getElem hlt⟩
              obtain ⟨b, off, ao', cp', rfl, hb, hrx, d0, d1, d2, d3, d4, d5, d6⟩ := (ArgS.kept HK.out ao 0 l HA.out).part hx
              have PC := HI.out x (List.mem_of_getElem? hx) _ wr (HMw.out.trans HK.out (fun _ _ h => h)) hrx (smallL_mem HSL.out (List.mem_of_getElem? hx))
              have hi0 : (0 : Int) ≤ (i : Int) := by omega
              have hiI : (i : Int) < (l.length : Int) := by omega
              by_cases hpx : Rich.part x = true
              · have HN := Lib.hid (show ∀ y ∈ l.take (i + 1), Rich.part y = true by
                  intro y hy
                  rw [List.take_add_one, hx] at hy
                  rcases List.mem_append.1 hy with h | h
                  · exact HPi.out y h
                  · simp at h; rw [h]; exact hpx)
                rw [hpx] at PC
                clear hx hrx hpx
                go_wp2_with (first
                  | (go_at_call 24; refine PC.mono ?_; rintro e w5 ⟨rfl, hk5⟩; have HK := Lib.hid (Kept.trans HK.out hk5 (fun _ _ h => h)); have HBr := Lib.hid (hk5.box HBr.out (fun h => h)); clear hk5)
                  | fail)
                go_roundw
                case rel => exact ⟨i + 1, by go_num, by omega, HN, HBr, HK⟩
                case measure => simp [intOf]; omega
              · rw [Bool.not_eq_true] at hpx
                have HF := Lib.hid (show Rich.part (.mk k d l) = false by rw [HP.out, allP_take_no hx hpx, Bool.and_false, Bool.false_and])
                rw [hpx] at PC
                clear hx hrx hpx
                go_wp2_with (first
                  | (go_at_call 24; refine PC.mono ?_; rintro e w5 ⟨rfl, hk5⟩; have HK := Lib.hid (Kept.trans HK.out hk5 (fun _ _ h => h)); clear hk5)
                  | fail)
                go_ret
                exact ⟨by rw [HF.out]; rfl, HK.out⟩
            · have hge : ¬ (i : Int) < (l.length : Int) := by omega
              have HF := Lib.hid (show Rich.part (.mk k d l) = noD d by
                have hall : allP l = true := allP_take_yes (by have h := HPi.out; rw [List.take_of_length_le (by omega)] at h; exact h)
                rw [HP.out, HOK.out, hall, Bool.and_true, Bool.true_and])
              have hq := dep_zero d
              generalize d.name = dn at *
              generalize d.op = dop at *
              generalize d.evr.epoch = dep at *
              generalize d.evr.ver = dv at *
              generalize d.evr.rel = dr at *
              generalize noD d = nd at *
              go_wp2_with fail
              all_goals go_ret
              all_goals exact ⟨by rw [HF.out]; rfl, HK.out⟩
        · have hnI : ((l.length : Int) != 2) = true := by simp; omega
          by_cases hn3 : l.length = 3
          · have HOK := Lib.hid (show okN k l.length = true by rw [hc, hn3]; rfl)
            have hnJ : ((l.length : Int) != 3) = false := by simp; omega
            clear hc hn hn3
            go_enter Tryz.func24, Tryz.ntmps24
            go_wp2_with fail
            go_loopw [4] (fun v4 wr => ∃ (i : Nat), v4 = .int .i64 (i : Int) ∧ i ≤ l.length ∧ Hid (∀ y ∈ l.take i, Rich.part y = true) ∧ Hid (Box wr w.heap.size 28 (richA k d (.slice ao l.length cp))) ∧ Hid (Kept (fun _ => False) w wr)) (fun v4 _ => l.length - (intOf v4).toNat)
            case atStart => exact ⟨0, rfl, Nat.zero_le _, Lib.hid (by simp), HB, Lib.hid ((Kept.refl _ _).alloc _)⟩
            case round =>
              obtain ⟨i, rfl, hi, HPi, HBr, HK⟩ := hrel
              rename World => wr
              have b1 : wr.cell? ⟨w.heap.size, 1, none⟩ = some (.string ⟨d.name.toArray⟩) := HBr.out.cell 1
              have b2 : wr.cell? ⟨w.heap.size, 2, none⟩ = some (.int .u8 (d.op : Int)) := HBr.out.cell 2
              have b3 : wr.cell? ⟨w.heap.size, 3, none⟩ = some (.int .i64 d.evr.epoch) := HBr.out.cell 3
              have b4 : wr.cell? ⟨w.heap.size, 4, none⟩ = some (.string ⟨d.evr.ver.toArray⟩) := HBr.out.cell 4
              have b5 : wr.cell? ⟨w.heap.size, 5, none⟩ = some (.string ⟨d.evr.rel.toArray⟩) := HBr.out.cell 5
              have b6 : wr.cell? ⟨w.heap.size, 6, none⟩ = some (.slice ao l.length cp) := HBr.out.cell 6
              by_cases hlt : i < l.length
              · obtain ⟨x, hx⟩ : ∃ x, l[i]? = some x := ⟨_, List.getElem?_eq_getElem hlt⟩
                obtain ⟨b, off, ao', cp', rfl, hb, hrx, d0, d1, d2, d3, d4, d5, d6⟩ := (ArgS.kept HK.out ao 0 l HA.out).part hx
                have PC := HI.out x (List.mem_of_getElem? hx) _ wr (HMw.out.trans HK.out (fun _ _ h => h)) hrx (smallL_mem HSL.out (List.mem_of_getElem? hx))
                have hi0 : (0 : Int) ≤ (i : Int) := by omega
                have hiI : (i : Int) < (l.length : Int) := by omega
                by_cases hpx : Rich.part x = true
                · have HN := Lib.hid (show ∀ y ∈ l.take (i + 1), Rich.part y = true by
                    intro y hy
                    rw [List.take_add_one, hx] at hy
                    rcases List.mem_append.1 hy with h | h
                    · exact HPi.out y h
                    · simp at h; rw [h]; exact hpx)
                  rw [hpx] at PC
                  clear hx hrx hpx
                  go_wp2_with (first
                    | (go_at_call 24; refine PC.mono ?_; rintro e w5 ⟨rfl, hk5⟩; have HK := Lib.hid (Kept.trans HK.out hk5 (fun _ _ h => h)); have HBr := Lib.hid (hk5.box HBr.out (fun h => h)); clear hk5)
                    | fail)
                  go_roundw
                  case rel => exact ⟨i + 1, by go_num, by omega, HN, HBr, HK⟩
                  case measure => simp [intOf]; omega
                · rw [Bool.not_eq_true] at hpx
                  have HF := Lib.hid (show Rich.part (.mk k d l) = false by rw [HP.out, allP_take_no hx hpx, Bool.and_false, Bool.false_and])
                  rw [hpx] at PC
                  clear hx hrx hpx
                  go_wp2_with (first
                    | (go_at_call 24; refine PC.mono ?_; rintro e w5 ⟨rfl, hk5⟩; have HK := Lib.hid (Kept.trans HK.out hk5 (fun _ _ h => h)); clear hk5)
                    | fail)
                  go_ret
                  exact ⟨by rw [HF.out]; rfl, HK.out⟩
              · have hge : ¬ (i : Int) < (l.length : Int) := by omega
                have HF := Lib.hid (show Rich.part (.mk k d l) = noD d by
                  have hall : allP l = true := allP_take_yes (by have h := HPi.out; rw [List.take_of_length_le (by omega)] at h; exact h)
                  rw [HP.out, HOK.out, hall, Bool.and_true, Bool.true_and])
                have hq := dep_zero d
                generalize d.name = dn at *
                generalize d.op = dop at *
                generalize d.evr.epoch = dep at *
                generalize d.evr.ver = dv at *
                generalize d.evr.rel = dr at *
                generalize noD d = nd at *
                go_wp2_with fail
                all_goals go_ret
                all_goals exact ⟨by rw [HF.out]; rfl, HK.out⟩
          · have HF := Lib.hid (show Rich.part (.mk k d l) = false by rw [HP.out, hc]; simp [okN, hn, hn3])
            have hnJ : ((l.length : Int) != 3) = true := by simp; omega
            clear hc hn hn3 HI
            go_enter Tryz.func24, Tryz.ntmps24
            go_wp2_with fail
            go_ret
            exact ⟨by rw [HF.out]; rfl, (Kept.refl _ _).alloc _⟩
      · have e2 : ((k : Int) == 2) = false := by simp; omega
        have e3 : ((k : Int) == 3) = false := by simp; omega
        have e6 : ((k : Int) == 6) = false := by simp; omega
        have e4 : ((k : Int) == 4) = false := by simp; omega
        have e5 : ((k : Int) == 5) = true := by simp; omega
        by_cases hn : l.length = 2
        · have HOK := Lib.hid (show okN k l.length = true by rw [hc, hn]; rfl)
          have hnI : ((l.length : Int) != 2) = false := by simp; omega
          clear hc hn
          go_enter Tryz.func24, Tryz.ntmps24
          go_wp2_with fail
          go_loopw [4] (fun v4 wr => ∃ (i : Nat), v4 = .int .i64 (i : Int) ∧ i ≤ l.length ∧ Hid (∀ y ∈ l.take i, Rich.part y = true) ∧ Hid (Box wr w.heap.size 28 (richA k d (.slice ao l.length cp))) ∧ Hid (Kept (fun _ => False) w wr)) (fun v4 _ => l.length - (intOf v4).toNat)
          case atStart => exact ⟨0, rfl, Nat.zero_le _, Lib.hid (by simp), HB, Lib.hid ((Kept.refl _ _).alloc _)⟩
          case round =>
            obtain ⟨i, rfl, hi, HPi, HBr, HK⟩ := hrel
            rename World => wr
            have b1 : wr.cell? ⟨w.heap.size, 1, none⟩ = some (.string ⟨d.name.toArray⟩) := HBr.out.cell 1
            have b2 : wr.cell? ⟨w.heap.size, 2, none⟩ = some (.int .u8 (d.op : Int)) := HBr.out.cell 2
            have b3 : wr.cell? ⟨w.heap.size, 3, none⟩ = some (.int .i64 d.evr.epoch) := HBr.out.cell 3
            have b4 : wr.cell? ⟨w.heap.size, 4, none⟩ = some (.string ⟨d.evr.ver.toArray⟩) := HBr.out.cell 4
            have b5 : wr.cell? ⟨w.heap.size, 5, none⟩ = some (.string ⟨d.evr.rel.toArray⟩) := HBr.out.cell 5
            have b6 : wr.cell? ⟨w.heap.size, 6, none⟩ = some (.slice ao l.length cp) := HBr.out.cell 6
            by_cases hlt : i < l.length
            · obtain ⟨x, hx⟩ : ∃ x, l[i]? = some x := ⟨_, List.getElem?_eq_getElem hlt⟩
              obtain ⟨b, off, ao', cp', rfl, hb, hrx, d0, d1, d2, d3, d4, d5, d6⟩ := (ArgS.kept HK.out ao 0 l HA.out).part hx
              have PC := HI.out x (List.mem_of_getElem? hx) _ wr (HMw.out.trans HK.out (fun _ _ h => h)) hrx (smallL_mem HSL.out (List.mem_of_getElem? hx))
              have hi0 : (0 : Int) ≤ (i : Int) := by omega
              have hiI : (i : Int) < (l.length : Int) := by omega
              by_cases hpx : Rich.part x = true
              · have HN := Lib.hid (show ∀ y ∈ l.take (i + 1), Rich.part y = true by
                  intro y hy
                  rw [List.take_add_one, hx] at hy
                  rcases List.mem_append.1 hy with h | h
                  · exact HPi.out y h
                  · simp at h; rw [h]; exact hpx)
                rw [hpx] at PC
                clear hx hrx hpx
                go_wp2_with (first
                  | (go_at_call 24; refine PC.mono ?_; rintro e w5 ⟨rfl, hk5⟩; have HK := Lib.hid (Kept.trans HK.out hk5 (fun _ _ h => h)); have HBr := Lib.hid (hk5.box HBr.out (fun h => h)); clear hk5)
                  | fail)
                go_roundw
                case rel => exact ⟨i + 1, by go_num, by omega, HN, HBr, HK⟩
                case measure => simp [intOf]; omega
              · rw [Bool.not_eq_true] at hpx
                have HF := Lib.hid (show Rich.part (.mk k d l) = false by rw [HP.out, allP_take_no hx hpx, Bool.and_false, Bool.false_and])
                rw [hpx] at PC
                clear hx hrx hpx
                go_wp2_with (first
                  | (go_at_call 24; refine PC.mono ?_; rintro e w5 ⟨rfl, hk5⟩; have HK := Lib.hid (Kept.trans HK.out hk5 (fun _ _ h => h)); clear hk5)
                  | fail)
                go_ret
                exact ⟨by rw [HF.out]; rfl, HK.out⟩
            · have hge : ¬ (i : Int) < (l.length : Int) := by omega
              have HF := Lib.hid (show Rich.part (.mk k d l) = noD d by
                have hall : allP l = true := allP_take_yes (by have h := HPi.out; rw [List.take_of_length_le (by omega)] at h; exact h)
                rw [HP.out, HOK.out, hall, Bool.and_true, Bool.true_and])
              have hq := dep_zero d
              generalize d.name = dn at *
              generalize d.op = dop at *
              generalize d.evr.epoch = dep at *
              generalize d.evr.ver = dv at *
              generalize d.evr.rel = dr at *
              generalize noD d = nd at *
              go_wp2_with fail
              all_goals go_ret
              all_goals exact ⟨by rw [HF.out]; rfl, HK.out⟩
        · have hnI : ((l.length : Int) != 2) = true := by simp; omega
          by_cases hn3 : l.length = 3
          · have HOK := Lib.hid (show okN k l.length = true by rw [hc, hn3]; rfl)
            have hnJ : ((l.length : Int) != 3) = false := by simp; omega
            clear hc hn hn3
            go_enter Tryz.func24, Tryz.ntmps24
            go_wp2_with fail
            go_loopw [4] (fun v4 wr => ∃ (i : Nat), v4 = .int .i64 (i : Int) ∧ i ≤ l.length ∧ Hid (∀ y ∈ l.take i, Rich.part y = true) ∧ Hid (Box wr w.heap.size 28 (richA k d (.slice ao l.length cp))) ∧ Hid (Kept (fun _ => False) w wr)) (fun v4 _ => l.length - (intOf v4).toNat)
            case atStart => exact ⟨0, rfl, Nat.zero_le _, Lib.hid (by simp), HB, Lib.hid ((Kept.refl _ _).alloc _)⟩
            case round =>
              obtain ⟨i, rfl, hi, HPi, HBr, HK⟩ := hrel
              rename World => wr
              have b1 : wr.cell? ⟨w.heap.size, 1, none⟩ = some (.string ⟨d.name.toArray⟩) := HBr.out.cell 1
              have b2 : wr.cell? ⟨w.heap.size, 2, none⟩ = some (.int .u8 (d.op : Int)) := HBr.out.cell 2
              have b3 : wr.cell? ⟨w.heap.size, 3, none⟩ = some (.int .i64 d.evr.epoch) := HBr.out.cell 3
              have b4 : wr.cell? ⟨w.heap.size, 4, none⟩ = some (.string ⟨d.evr.ver.toArray⟩) := HBr.out.cell 4
              have b5 : wr.cell? ⟨w.heap.size, 5, none⟩ = some (.string ⟨d.evr.rel.toArray⟩) := HBr.out.cell 5
              have b6 : wr.cell? ⟨w.heap.size, 6, none⟩ = some (.slice ao l.length cp) := HBr.out.cell 6
              by_cases hlt : i < l.length
              · obtain ⟨x, hx⟩ : ∃ x, l[i]? = some x := ⟨_, List.getElem?_eq_getElem hlt⟩
                obtain ⟨b, off, ao', cp', rfl, hb, hrx, d0, d1, d2, d3, d4, d5, d6⟩ := (ArgS.kept HK.out ao 0 l HA.out).part hx
                have PC := HI.out x (List.mem_of_getElem? hx) _ wr (HMw.out.trans HK.out (fun _ _ h => h)) hrx (smallL_mem HSL.out (List.mem_of_getElem? hx))
                have hi0 : (0 : Int) ≤ (i : Int) := by omega
                have hiI : (i : Int) < (l.length : Int) := by omega
                by_cases hpx : Rich.part x = true
                · have HN := Lib.hid (show ∀ y ∈ l.take (i + 1), Rich.part y = true by
                    intro y hy
                    rw [List.take_add_one, hx] at hy
                    rcases List.mem_append.1 hy with h | h
                    · exact HPi.out y h
                    · simp at h; rw [h]; exact hpx)
                  rw [hpx] at PC
                  clear hx hrx hpx
                  go_wp2_with (first
                    | (go_at_call 24; refine PC.mono ?_; rintro e w5 ⟨rfl, hk5⟩; have HK := Lib.hid (Kept.trans HK.out hk5 (fun _ _ h => h)); have HBr := Lib.hid (hk5.box HBr.out (fun h => h)); clear hk5)
                    | fail)
                  go_roundw
                  case rel => exact ⟨i + 1, by go_num, by omega, HN, HBr, HK⟩
                  case measure => simp [intOf]; omega
                · rw [Bool.not_eq_true] at hpx
                  have HF := Lib.hid (show Rich.part (.mk k d l) = false by rw [HP.out, allP_take_no hx hpx, Bool.and_false, Bool.false_and])
                  rw [hpx] at PC
                  clear hx hrx hpx
                  go_wp2_with (first
                    | (go_at_call 24; refine PC.mono ?_; rintro e w5 ⟨rfl, hk5⟩; have HK := Lib.hid (Kept.trans HK.out hk5 (fun _ _ h => h)); clear hk5)
                    | fail)
                  go_ret
                  exact ⟨by rw [HF.out]; rfl, HK.out⟩
              · have hge : ¬ (i : Int) < (l.length : Int) := by omega
                have HF := Lib.hid (show Rich.part (.mk k d l) = noD d by
                  have hall : allP l = true := allP_take_yes (by have h := HPi.out; rw [List.take_of_length_le (by omega)] at h; exact h)
                  rw [HP.out, HOK.out, hall, Bool.and_true, Bool.true_and])
                have hq := dep_zero d
                generalize d.name = dn at *
                generalize d.op = dop at *
                generalize d.evr.epoch = dep at *
                generalize d.evr.ver = dv at *
                generalize d.evr.rel = dr at *
                generalize noD d = nd at *
                go_wp2_with fail
                all_goals go_ret
                all_goals exact ⟨by rw [HF.out]; rfl, HK.out⟩
          · have HF := Lib.hid (show Rich.part (.mk k d l) = false by rw [HP.out, hc]; simp [okN, hn, hn3])
            have hnJ : ((l.length : Int) != 3) = true := by simp; omega
            clear hc hn hn3 HI
            go_enter Tryz.func24, Tryz.ntmps24
            go_wp2_with fail
            go_ret
            exact ⟨by rw [HF.out]; rfl, (Kept.refl _ _).alloc _⟩
      · have e2 : ((k : Int) == 2) = false := by simp; omega
        have e3 : ((k : Int) == 3) = false := by simp; omega
        have e6 : ((k : Int) == 6) = false := by simp; omega
        have e4 : ((k : Int) == 4) = false := by simp; omega
        have e5 : ((k : Int) == 5) = false := by simp; omega
        have e7 : ((k : Int) == 7) = true := by simp; omega
        by_cases hn : l.length = 2
        · have HOK := Lib.hid (show okN k l.length = true by rw [hc, hn]; rfl)
          have hnI : ((l.length : Int) != 2) = false := by simp; omega
          clear hc hn
          go_enter Tryz.func24, Tryz.ntmps24
          go_wp2_with fail
          go_loopw [4] (fun v4 wr => ∃ (i : Nat), v4 = .int .i64 (i : Int) ∧ i ≤ l.length ∧ Hid (∀ y ∈ l.take i, Rich.part y = true) ∧ Hid (Box wr w.heap.size 28 (richA k d (.slice ao l.length cp))) ∧ Hid (Kept (fun _ => False) w wr)) (fun v4 _ => l.length - (intOf v4).toNat)
          case atStart => exact ⟨0, rfl, Nat.zero_le _, Lib.hid (by simp), HB, Lib.hid ((Kept.refl _ _).alloc _)⟩
          case round =>
            obtain ⟨i, rfl, hi, HPi, HBr, HK⟩ := hrel
            rename World => wr
            have b1 : wr.cell? ⟨w.heap.size, 1, none⟩ = some (.string ⟨d.name.toArray⟩) := HBr.out.cell 1
            have b2 : wr.cell? ⟨w.heap.size, 2, none⟩ = some (.int .u8 (d.op : Int)) := HBr.out.cell 2
            have b3 : wr.cell? ⟨w.heap.size, 3, none⟩ = some (.int .i64 d.evr.epoch) := HBr.out.cell 3
            have b4 : wr.cell? ⟨w.heap.size, 4, none⟩ = some (.string ⟨d.evr.ver.toArray⟩) := HBr.out.cell 4
            have b5 : wr.cell? ⟨w.heap.size, 5, none⟩ = some (.string ⟨d.evr.rel.toArray⟩) := HBr.out.cell 5
            have b6 : wr.cell? ⟨w.heap.size, 6, none⟩ = some (.slice ao l.length cp) := HBr.out.cell 6
            by_cases hlt : i < l.length
            · obtain ⟨x, hx⟩ : ∃ x, l[i]? = some x := ⟨_, List.getElem?_eq_getElem hlt⟩
              obtain ⟨b, off, ao', cp', rfl, hb, hrx, d0, d1, d2, d3, d4, d5, d6⟩ := (ArgS.kept HK.out ao 0 l HA.out).part hx
              have PC := HI.out x (List.mem_of_getElem? hx) _ wr (HMw.out.trans HK.out (fun _ _ h => h)) hrx (smallL_mem HSL.out (List.mem_of_getElem? hx))
              have hi0 : (0 : Int) ≤ (i : Int) := by omega
              have hiI : (i : Int) < (l.length : Int) := by omega
              by_cases hpx : Rich.part x = true
              · have HN := Lib.hid (show ∀ y ∈ l.take (i + 1), Rich.part y = true by
                  intro y hy
                  rw [List.take_add_one, hx] at hy
                  rcases List.mem_append.1 hy with h | h
                  · exact HPi.out y h
                  · simp at h; rw [h]; exact hpx)
                rw [hpx] at PC
                clear hx hrx hpx
                go_wp2_with (first
                  | (go_at_call 24; refine PC.mono ?_; rintro e w5 ⟨rfl, hk5⟩; have HK := Lib.hid (Kept.trans HK.out hk5 (fun _ _ h => h)); have HBr := Lib.hid (hk5.box HBr.out (fun h => h)); clear hk5)
                  | fail)
                go_roundw
                case rel => exact ⟨i + 1, by go_num, by omega, HN, HBr, HK⟩
                case measure => simp [intOf]; omega
              · rw [Bool.not_eq_true] at hpx
                have HF := Lib.hid (show Rich.part (.mk k d l) = false by rw [HP.out, allP_take_no hx hpx, Bool.and_false, Bool.false_and])
                rw [hpx] at PC
                clear hx hrx hpx
                go_wp2_with (first
                  | (go_at_call 24; refine PC.mono ?_; rintro e w5 ⟨rfl, hk5⟩; have HK := Lib.hid (Kept.trans HK.out hk5 (fun _ _ h => h)); clear hk5)
                  | fail)
                go_ret
                exact ⟨by rw [HF.out]; rfl, HK.out⟩
            · have hge : ¬ (i : Int) < (l.length : Int) := by omega
              have HF := Lib.hid (show Rich.part (.mk k d l) = noD d by
                have hall : allP l = true := allP_take_yes (by have h := HPi.out; rw [List.take_of_length_le (by omega)] at h; exact h)
                rw [HP.out, HOK.out, hall, Bool.and_true, Bool.true_and])
              have hq := dep_zero d
              generalize d.name = dn at *
              generalize d.op = dop at *
              generalize d.evr.epoch = dep at *
              generalize d.evr.ver = dv at *
              generalize d.evr.rel = dr at *
              generalize noD d = nd at *
              go_wp2_with fail
              all_goals go_ret
              all_goals exact ⟨by rw [HF.out]; rfl, HK.out⟩
        · have hnI : ((l.length : Int) != 2) = true := by simp; omega
          have HF := Lib.hid (show Rich.part (.mk k d l) = false by rw [HP.out, hc]; simp [okN, hn])
          clear hc hn HI
          go_enter Tryz.func24, Tryz.ntmps24
          go_wp2_with fail
          go_ret
          exact ⟨by rw [HF.out]; rfl, (Kept.refl _ _).alloc _⟩
      · have HF := Lib.hid (show Rich.part (.mk k d l) = false by rw [HP.out]; simp [okN, h2, h3, h4, h5, h6, h7])
        have e2 : ((k : Int) == 2) = false := by simp; omega
        have e3 : ((k : Int) == 3) = false := by simp; omega
        have e6 : ((k : Int) == 6) = false := by simp; omega
        have e4 : ((k : Int) == 4) = false := by simp; omega
        have e5 : ((k : Int) == 5) = false := by simp; omega
        have e7 : ((k : Int) == 7) = false := by simp; omega
        clear h2 h3 h4 h5 h6 h7 HI
        go_enter Tryz.func24, Tryz.ntmps24
        go_wp2_with fail
        go_ret
        exact ⟨by rw [HF.out]; rfl, (Kept.refl _ _).alloc _⟩
  exact fun x v w hM hr hs => main w hM x v w (Kept.refl _ _) hr hs
end Go.Proofs.YtoebokgpdkklmaaGreatDoor
