/-
  The walk over the document's Same (layer 9). The walk over the program's Same (layer 9). Conditions: as each theorem states.
-/
import Derived.Test.YtlpalepkomkngaaGreatDoorK32
import Derived.Shelf.Abstract
namespace Go.Proofs.YtlpalepkomkngaaGreatDoor
open Go.RowKit Rich

set_option maxRecDepth 100000 in
set_option maxHeartbeats 4000000 in
theorem sameR9_walk : ∀ (x y : R) (v v' : Value) (w : World), RichS w x v → RichS w y v' → fitsX x →
    Calls Tryz.prog 52 #[v, v'] w fun e w' => e = .returned (.bool (sameX x y)) ∧ Kept (fun _ => False) w w' := by
  refine R.ind fun k d l ih y v v' w hr hr' hf => ?_
  obtain ⟨k', d', l'⟩ := y
  have hS : sameX (.mk k d l) (.mk k' d' l') = (decide (k = k') && sameD d d' && decide (l.length = l'.length) && sameL l l') := by rw [sameX]
  generalize sameX (.mk k d l) (.mk k' d' l') = sx at *
  rw [RichS] at hr hr'
  obtain ⟨ao, cp, rfl, hk, ho, hA⟩ := hr
  obtain ⟨ao', cp', rfl, hk', ho', hA'⟩ := hr'
  rw [fitsX] at hf
  obtain ⟨_, _, _, hll, hfl⟩ := hf
  have HI := Lib.hid ih
  have HA := Lib.hid hA
  have HA' := Lib.hid hA'
  have HFL := Lib.hid hfl
  have HB := Lib.hid ((Box.made w 39 (richA k d (.slice ao l.length cp))).after_alloc (.cells (richA k' d' (.slice ao' l'.length cp')) 39))
  have HB' := Lib.hid (show Box ((w.alloc (.cells (richA k d (.slice ao l.length cp)) 39)).alloc (.cells (richA k' d' (.slice ao' l'.length cp')) 39)) (w.heap.size + 1) 39 (richA k' d' (.slice ao' l'.length cp')) from by
    have h := Box.made (w.alloc (.cells (richA k d (.slice ao l.length cp)) 39)) 39 (richA k' d' (.slice ao' l'.length cp'))
    rw [World.size_alloc] at h
    exact h)
  clear ih hA hA' hfl
  by_cases c1 : k = k'
  · subst c1
    cases hd : sameD d d' with
    | true =>
      have hdd := sameD_iff.1 hd
      subst hdd
      rw [hd] at hS
      by_cases c2 : l.length = l'.length
      · have HS := Lib.hid (show sx = sameL l l' by rw [hS, decide_eq_true rfl, decide_eq_true c2]; rfl)
        have HC2 := Lib.hid c2
        have hne : ((l.length : Int) != (l'.length : Int)) = false := by simp; omega
        clear hS hd c2
        go_enter Tryz.func52, Tryz.ntmps52
        go_wp2_with fail
        go_loopw [5] (fun v5 wr => ∃ (i : Nat), v5 = .int .i64 (i : Int) ∧ i ≤ l.length ∧ Hid (∀ (j : Nat) a b, j < i → l[j]? = some a → l'[j]? = some b → sameX a b = true) ∧ Hid (Box wr w.heap.size 39 (richA k d (.slice ao l.length cp))) ∧ Hid (Box wr (w.heap.size + 1) 39 (richA k d (.slice ao' l'.length cp'))) ∧ Hid (Kept (fun _ => False) w wr)) (fun v5 _ => l.length - (intOf v5).toNat)
        case atStart => exact ⟨0, rfl, Nat.zero_le _, Lib.hid (by intro j a b h; omega), HB, HB', Lib.hid (((Kept.refl _ _).alloc _).alloc _)⟩
        case round =>
          obtain ⟨i, rfl, hi, HE, HBr, HBr', HK⟩ := hrel
          rename World => wr
          have b6 : wr.cell? ⟨w.heap.size, 6, none⟩ = some (.slice ao l.length cp) := HBr.out.cell 6
          have b6' : wr.cell? ⟨w.heap.size + 1, 6, none⟩ = some (.slice ao' l'.length cp') := HBr'.out.cell 6
          by_cases hlt : i < l.length
          · obtain ⟨x, hx⟩ : ∃ x, l[i]? = some x := ⟨_, List.getElem?_eq_getElem hlt⟩
            have hlt' : i < l'.length := by have := HC2.out; omega
            obtain ⟨y, hy⟩ : ∃ y, l'[i]? = some y := ⟨_, List.getElem?_eq_getElem hlt'⟩
            obtain ⟨b, off, ap, cpp, rfl, hb, hrx, d0, d1, d2, d3, d4, d5, d6⟩ := (ArgS.kept HK.out ao 0 l HA.out).part hx
            obtain ⟨b', off', ap', cpp', rfl, hb', hry, g0, g1, g2, g3, g4, g5, g6⟩ := (ArgS.kept HK.out ao' 0 l' HA'.out).part hy
            have PC := fun W (hk : Kept (fun _ => False) wr W) => HI.out x (List.mem_of_getElem? hx) y _ _ W (RichS.kept hk x _ hrx) (RichS.kept hk y _ hry) (fitsL_mem HFL.out (List.mem_of_getElem? hx))
            have hi0 : (0 : Int) ≤ (i : Int) := by omega
            have hiI : (i : Int) < (l.length : Int) := by omega
            have hiJ : (i : Int) < (l'.length : Int) := by omega
            cases hxy : sameX x y with
            | true =>
              have HN := Lib.hid (show ∀ (j : Nat) a b, j < i + 1 → l[j]? = some a → l'[j]? = some b → sameX a b = true from fun j a b hj ha hb2 => by
                by_cases hji : j < i
                · exact HE.out j a b hji ha hb2
                · obtain rfl : j = i := by omega
                  rw [hx] at ha
                  rw [hy] at hb2
                  injection ha with ha
                  injection hb2 with hb2
                  rw [← ha, ← hb2]; exact hxy)
              rw [hxy] at PC
              clear hx hy hrx hry hxy
              go_wp2_with fail
              go_region_with ((first
                | (go_at_call 52; refine (PC _ (by repeat' (first | exact Kept.refl _ _ | refine Kept.drewN ?_ _ | refine Kept.drew ?_))).mono ?_; rintro e w5 ⟨rfl, hk5⟩; have HK := Lib.hid (Kept.trans HK.out ((Kept.drew (Kept.refl (fun _ => False) wr)).trans hk5 (fun _ _ h => h)) (fun _ _ h => h)); have HBr := Lib.hid (((Kept.drew (Kept.refl (fun _ => False) wr)).trans hk5 (fun _ _ h => h)).box HBr.out (fun h => h)); have HBr' := Lib.hid (((Kept.drew (Kept.refl (fun _ => False) wr)).trans hk5 (fun _ _ h => h)).box HBr'.out (fun h => h)))
                | fail))
              all_goals go_wp2_with fail
              all_goals go_roundw
              all_goals first
                | exact ⟨i + 1, by go_num, by omega, HN, HBr, HBr', HK⟩
                | (simp [intOf]; omega)
            | false =>
              have HF := Lib.hid (show sx = false by rw [HS.out]; exact sameL_at HC2.out hx hy hxy)
              rw [hxy] at PC
              clear hx hy hrx hry hxy
              go_wp2_with fail
              go_region_with ((first
                | (go_at_call 52; refine (PC _ (by repeat' (first | exact Kept.refl _ _ | refine Kept.drewN ?_ _ | refine Kept.drew ?_))).mono ?_; rintro e w5 ⟨rfl, hk5⟩; have HK := Lib.hid (Kept.trans HK.out ((Kept.drew (Kept.refl (fun _ => False) wr)).trans hk5 (fun _ _ h => h)) (fun _ _ h => h)); have HBr := Lib.hid (((Kept.drew (Kept.refl (fun _ => False) wr)).trans hk5 (fun _ _ h => h)).box HBr.out (fun h => h)); have HBr' := Lib.hid (((Kept.drew (Kept.refl (fun _ => False) wr)).trans hk5 (fun _ _ h => h)).box HBr'.out (fun h => h)))
                | fail))
              all_goals go_wp2_with fail
              all_goals go_ret
              all_goals exact ⟨by rw [HF.out]; rfl, HK.out⟩
          · have hge : ¬ (i : Int) < (l.length : Int) := by omega
            have HF := Lib.hid (show sx = true by
              rw [HS.out]
              exact sameL_all HC2.out fun j a b ha hb => HE.out j a b (by have := (List.getElem?_eq_some_iff.1 ha).1; omega) ha hb)
            go_wp2_with fail
            go_ret
            exact ⟨by rw [HF.out]; rfl, HK.out⟩
      · have HF := Lib.hid (show sx = false by rw [hS, decide_eq_false c2, Bool.and_false, Bool.false_and])
        have hne : ((l.length : Int) != (l'.length : Int)) = true := by simp; omega
        clear hS hd c2 HI
        go_enter Tryz.func52, Tryz.ntmps52
        go_wp2_with fail
        all_goals go_ret
        all_goals exact ⟨by rw [HF.out]; rfl, ((Kept.refl _ _).alloc _).alloc _⟩
    | false =>
      have HF := Lib.hid (show sx = false by rw [hS, hd, Bool.and_false, Bool.false_and, Bool.false_and])
      obtain ⟨n, o, ⟨e, vv, r⟩⟩ := d
      obtain ⟨n', o', ⟨e', vv', r'⟩⟩ := d'
      unfold sameD at hd
      clear hS HI HA HA' HFL HB HB'
      by_cases q1 : n = n'
      · subst q1
        by_cases q2 : o = o'
        · subst q2
          by_cases q3 : e = e'
          · subst q3
            by_cases q4 : vv = vv'
            · subst q4
              have q5 : ¬ r = r' := fun e => by subst e; simp at hd
              clear hd
              go_enter Tryz.func52, Tryz.ntmps52
              go_wp2_with fail
              all_goals go_ret
              all_goals exact ⟨by rw [HF.out]; rfl, ((Kept.refl _ _).alloc _).alloc _⟩
            · skip
              clear hd
              go_enter Tryz.func52, Tryz.ntmps52
              go_wp2_with fail
              all_goals go_ret
              all_goals exact ⟨by rw [HF.out]; rfl, ((Kept.refl _ _).alloc _).alloc _⟩
          · skip
            clear hd
            go_enter Tryz.func52, Tryz.ntmps52
            go_wp2_with fail
            all_goals go_ret
            all_goals exact ⟨by rw [HF.out]; rfl, ((Kept.refl _ _).alloc _).alloc _⟩
        · skip
          clear hd
          go_enter Tryz.func52, Tryz.ntmps52
          go_wp2_with fail
          all_goals go_ret
          all_goals exact ⟨by rw [HF.out]; rfl, ((Kept.refl _ _).alloc _).alloc _⟩
      · skip
        clear hd
        go_enter Tryz.func52, Tryz.ntmps52
        go_wp2_with fail
        all_goals go_ret
        all_goals exact ⟨by rw [HF.out]; rfl, ((Kept.refl _ _).alloc _).alloc _⟩
  · have HF := Lib.hid (show sx = false by rw [hS, decide_eq_false c1]; rfl)
    have hkk : ((k : Int) != (k' : Int)) = true := by simp; omega
    clear hS c1 HI
    go_enter Tryz.func52, Tryz.ntmps52
    go_wp2_with fail
    all_goals go_ret
    all_goals exact ⟨by rw [HF.out]; rfl, ((Kept.refl _ _).alloc _).alloc _⟩
end Go.Proofs.YtlpalepkomkngaaGreatDoor

namespace Go.Proofs.YtlpalepkomkngaaGreatDoor
open Go.RowKit Rich

/-- What a function value answers to two rich dependencies, the first of which is one of these. -/
def AnsQ (g : Nat) (l : List R) (w : World) : Prop := ∀ x ∈ l, ∀ y v v' W, Kept (fun _ => False) w W → RichS W x v → RichS W y v' → Calls Tryz.prog g #[v, v'] W fun e W' => e = .returned (.bool (sameX x y)) ∧ Kept (fun _ => False) W W'
set_option maxRecDepth 100000 in
set_option maxHeartbeats 8000000 in
theorem equalFunc9 (g : Nat) (eg : ∀ args w, (callFunc g args).run Tryz.prog w = .ok (.enter g args) w) (l l' : List R) (ao ao' : Option Addr) (cp cp' : Nat) (w : World) (hl : l.length < 140737488355328) (hA0 : ArgS w ao 0 l) (hA0' : ArgS w ao' 0 l') (hF : AnsQ g l w) :
    Calls Tryz.prog 84 #[.slice ao l.length cp, .slice ao' l'.length cp', .func (.func g) #[] #[]] w fun e w' => e = .returned (.bool (decide (l.length = l'.length) && sameL l l')) ∧ Kept (fun _ => False) w w' := by
  have HA := Lib.hid hA0
  have HA' := Lib.hid hA0'
  have HI := Lib.hid hF
  clear hA0 hA0' hF
  by_cases c2 : l.length = l'.length
  · rw [decide_eq_true c2, Bool.true_and]
    have HC2 := Lib.hid c2
    have hne : ((l.length : Int) != (l'.length : Int)) = false := by simp; omega
    obtain ⟨sx, hsx⟩ : ∃ sx, sx = sameL l l' := ⟨_, rfl⟩
    have HS := Lib.hid hsx
    rw [← hsx]
    clear c2 hsx
    go_enter Tryz.func84, Tryz.ntmps84
    go_wp2_with fail
    go_loopw [17] (fun v17 wr => ∃ i : Nat, v17 = .int .i64 (i : Int) ∧ i ≤ l.length ∧ Hid (∀ (j : Nat) a b, j < i → l[j]? = some a → l'[j]? = some b → sameX a b = true) ∧ Hid (Kept (fun _ => False) w wr)) (fun v17 _ => l.length - (intOf v17).toNat)
    case atStart => exact ⟨0, rfl, Nat.zero_le _, Lib.hid (by intro j a b h; omega), Lib.hid (Kept.refl _ _)⟩
    case round =>
      obtain ⟨i, rfl, hi, HE, HK⟩ := hrel
      rename World => wr
      by_cases hlt : i < l.length
      · obtain ⟨x, hx⟩ : ∃ x, l[i]? = some x := ⟨_, List.getElem?_eq_getElem hlt⟩
        have hlt' : i < l'.length := by have := HC2.out; omega
        obtain ⟨y, hy⟩ : ∃ y, l'[i]? = some y := ⟨_, List.getElem?_eq_getElem hlt'⟩
        obtain ⟨b, off, ap, cpp, rfl, hb, hrx, d0, d1, d2, d3, d4, d5, d6⟩ := (ArgS.kept HK.out ao 0 l HA.out).part hx
        obtain ⟨b', off', ap', cpp', rfl, hb', hry, g0, g1, g2, g3, g4, g5, g6⟩ := (ArgS.kept HK.out ao' 0 l' HA'.out).part hy
        have K2 : Kept (fun _ => False) wr ((wr.alloc (.cells (richA x.kind x.dep (.slice ap x.args.length cpp)) 39)).alloc (.cells (richA y.kind y.dep (.slice ap' y.args.length cpp')) 39)) := ((Kept.refl _ _).alloc _).alloc _
        have PC := HI.out x (List.mem_of_getElem? hx) y _ _ _ (HK.out.trans K2 (fun _ _ h => h)) (RichS.kept K2 x _ hrx) (RichS.kept K2 y _ hry)
        have HK2 := Lib.hid (HK.out.trans K2 (fun _ _ h => h))
        have HY := Lib.hid (And.intro hx hy)
        have hi0 : (0 : Int) ≤ (i : Int) := by omega
        have hiI : (i : Int) < (l.length : Int) := by omega
        have hiJ : (i : Int) < (l'.length : Int) := by omega
        cases hxy : sameX x y with
        | true =>
          have HN := Lib.hid (show ∀ (j : Nat) a b, j < i + 1 → l[j]? = some a → l'[j]? = some b → sameX a b = true from fun j a b hj ha hb2 => by
            by_cases hji : j < i
            · exact HE.out j a b hji ha hb2
            · obtain rfl : j = i := by omega
              rw [HY.out.1] at ha
              rw [HY.out.2] at hb2
              injection ha with ha
              injection hb2 with hb2
              rw [← ha, ← hb2]; exact hxy)
          rw [hxy] at PC
          clear hx hy hrx hry hxy K2
          go_wp2_with (first
            | (go_at_fn g; refine PC.mono ?_; rintro e w5 ⟨rfl, hk5⟩; have HK5 := Lib.hid (HK2.out.trans hk5 (fun _ _ h => h)); clear hk5)
            | fail)
          go_roundw
          all_goals first
            | exact ⟨i + 1, by go_num, by omega, HN, HK5⟩
            | (simp [intOf]; done)
            | (simp [intOf]; omega)
        | false =>
          have HF := Lib.hid (show sx = false by rw [HS.out]; exact sameL_at HC2.out hx hy hxy)
          rw [hxy] at PC
          clear hx hy hrx hry hxy K2
          go_wp2_with (first
            | (go_at_fn g; refine PC.mono ?_; rintro e w5 ⟨rfl, hk5⟩; have HK5 := Lib.hid (HK2.out.trans hk5 (fun _ _ h => h)); clear hk5)
            | fail)
          go_ret
          exact ⟨by rw [HF.out]; rfl, HK5.out⟩
      · have hge : ¬ (i : Int) < (l.length : Int) := by omega
        have HF := Lib.hid (show sx = true by
          rw [HS.out]
          exact sameL_all HC2.out fun j a b ha hb => HE.out j a b (by have := (List.getElem?_eq_some_iff.1 ha).1; omega) ha hb)
        go_wp2_with fail
        go_ret
        exact ⟨by rw [HF.out]; rfl, HK.out⟩
  · rw [decide_eq_false c2, Bool.false_and]
    have hne : ((l.length : Int) != (l'.length : Int)) = true := by simp; omega
    clear c2
    go_enter Tryz.func84, Tryz.ntmps84
    go_wp2_with fail
    go_ret
    exact ⟨rfl, Kept.refl _ _⟩
set_option maxRecDepth 100000 in
set_option maxHeartbeats 8000000 in
theorem same9_walk : ∀ (x y : R) (v v' : Value) (w : World), RichS w x v → RichS w y v' → fitsX x →
    Calls Tryz.prog 85 #[v, v'] w fun e w' => e = .returned (.bool (sameX x y)) ∧ Kept (fun _ => False) w w' := by
  refine R.ind fun k d l ih y v v' w hr hr' hf => ?_
  obtain ⟨k', d', l'⟩ := y
  have hS : sameX (.mk k d l) (.mk k' d' l') = (decide (k = k') && sameD d d' && decide (l.length = l'.length) && sameL l l') := by rw [sameX]
  generalize sameX (.mk k d l) (.mk k' d' l') = sx at *
  rw [RichS] at hr hr'
  obtain ⟨ao, cp, rfl, hk, ho, hA⟩ := hr
  obtain ⟨ao', cp', rfl, hk', ho', hA'⟩ := hr'
  rw [fitsX] at hf
  obtain ⟨_, _, _, hll, hfl⟩ := hf
  have K2 : Kept (fun _ => False) w ((w.alloc (.cells (richA k d (.slice ao l.length cp)) 39)).alloc (.cells (richA k' d' (.slice ao' l'.length cp')) 39)) := ((Kept.refl _ _).alloc _).alloc _
  have PC := equalFunc9 85 (enters_of Tryz.func85 (by kernel_rfl) rfl) l l' ao ao' cp cp' _ (by omega) (ArgS.kept K2 _ 0 l hA) (ArgS.kept K2 _ 0 l' hA') (fun x hx y v v' W _ h1 h2 => ih x hx y v v' W h1 h2 (fitsL_mem hfl hx))
  have HK2 := Lib.hid K2
  clear ih hA hA' hfl K2 hll
  by_cases c1 : k = k'
  · subst c1
    cases hd : sameD d d' with
    | true =>
      have hdd := sameD_iff.1 hd
      subst hdd
      rw [hd] at hS
      have HS := Lib.hid (show (decide (l.length = l'.length) && sameL l l') = sx by rw [hS, decide_eq_true rfl]; simp)
      rw [HS.out] at PC
      clear hS hd HS
      go_enter Tryz.func85, Tryz.ntmps85
      go_wp2_with (first
        | (go_at_call 84; refine PC.mono ?_; rintro e w5 ⟨rfl, hk5⟩; have HK5 := Lib.hid (HK2.out.trans hk5 (fun _ _ h => h)); clear hk5)
        | fail)
      all_goals go_ret
      all_goals exact ⟨rfl, HK5.out⟩
    | false =>
      have HF := Lib.hid (show sx = false by rw [hS, hd, Bool.and_false, Bool.false_and, Bool.false_and])
      obtain ⟨n, o, ⟨e, vv, r⟩⟩ := d
      obtain ⟨n', o', ⟨e', vv', r'⟩⟩ := d'
      unfold sameD at hd
      clear hS PC
      by_cases q1 : n = n'
      · subst q1
        by_cases q2 : o = o'
        · subst q2
          by_cases q3 : e = e'
          · subst q3
            by_cases q4 : vv = vv'
            · subst q4
              have q5 : ¬ r = r' := fun e => by subst e; simp at hd
              clear hd
              go_enter Tryz.func85, Tryz.ntmps85
              go_wp2_with fail
              all_goals go_ret
              all_goals exact ⟨by rw [HF.out]; rfl, ((Kept.refl _ _).alloc _).alloc _⟩
            · skip
              clear hd
              go_enter Tryz.func85, Tryz.ntmps85
              go_wp2_with fail
              all_goals go_ret
              all_goals exact ⟨by rw [HF.out]; rfl, ((Kept.refl _ _).alloc _).alloc _⟩
          · skip
            clear hd
            go_enter Tryz.func85, Tryz.ntmps85
            go_wp2_with fail
            all_goals go_ret
            all_goals exact ⟨by rw [HF.out]; rfl, ((Kept.refl _ _).alloc _).alloc _⟩
        · skip
          clear hd
          go_enter Tryz.func85, Tryz.ntmps85
          go_wp2_with fail
          all_goals go_ret
          all_goals exact ⟨by rw [HF.out]; rfl, ((Kept.refl _ _).alloc _).alloc _⟩
      · skip
        clear hd
        go_enter Tryz.func85, Tryz.ntmps85
        go_wp2_with fail
        all_goals go_ret
        all_goals exact ⟨by rw [HF.out]; rfl, ((Kept.refl _ _).alloc _).alloc _⟩
  · have HF := Lib.hid (show sx = false by rw [hS, decide_eq_false c1]; rfl)
    have hkk : ((k : Int) == (k' : Int)) = false := beq_eq_false_iff_ne.2 (by omega)
    clear hS c1 PC
    go_enter Tryz.func85, Tryz.ntmps85
    go_wp2_with fail
    all_goals go_ret
    all_goals exact ⟨by rw [HF.out]; rfl, ((Kept.refl _ _).alloc _).alloc _⟩
end Go.Proofs.YtlpalepkomkngaaGreatDoor
