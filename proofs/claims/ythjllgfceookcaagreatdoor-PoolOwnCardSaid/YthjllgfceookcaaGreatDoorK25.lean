/-
  The walk over the document's Same (layer 8). The walk over the document's Same (layer 9). The walk over the program's Same (layer 9). Conditions: as each theorem states.
-/
import Derived.Test.YthjllgfceookcaaGreatDoorK02
import Derived.Test.YthjllgfceookcaaGreatDoorRows
import Derived.Handy
import Derived.Lib.Hide
import Derived.LoopN
import Derived.Deep.QuietTactic
import Derived.WalkKit
import Derived.Deep.RegionWith
import Derived.BigRegion
import Derived.Shelf.Abstract
namespace Go.Proofs.YthjllgfceookcaaGreatDoor
open Go.RowKit Rich

mutual
def sameX : R → R → Bool
  | .mk k d l, .mk k' d' l' => decide (k = k') && sameD d d' && decide (l.length = l'.length) && sameL l l'
def sameL : List R → List R → Bool
  | x :: l, y :: l' => sameX x y && sameL l l'
  | _, _ => true
def sameD (d d' : Dep.D) : Bool := decide (d.name = d'.name) && decide (d.op = d'.op) && decide (d.evr.epoch = d'.evr.epoch) && decide (d.evr.ver = d'.evr.ver) && decide (d.evr.rel = d'.evr.rel)
end
theorem sameD_iff {d d' : Dep.D} : sameD d d' = true ↔ d = d' := by
  obtain ⟨n, o, ⟨e, v, r⟩⟩ := d
  obtain ⟨n', o', ⟨e', v', r'⟩⟩ := d'
  unfold sameD
  simp [and_assoc]
mutual
theorem sameX_iff : ∀ a b : R, sameX a b = true ↔ a = b
  | .mk k d l, .mk k' d' l' => by
    rw [sameX, Bool.and_eq_true, Bool.and_eq_true, Bool.and_eq_true, sameD_iff, decide_eq_true_eq, decide_eq_true_eq]
    constructor
    · rintro ⟨⟨⟨rfl, rfl⟩, h⟩, h2⟩
      rw [(sameL_iff l l' h).1 h2]
    · intro h
      injection h with h1 h2 h3
      subst h3
      exact ⟨⟨⟨h1, h2⟩, rfl⟩, (sameL_iff l l rfl).2 rfl⟩
theorem sameL_iff : ∀ l l' : List R, l.length = l'.length → (sameL l l' = true ↔ l = l')
  | [], [], _ => by rw [sameL]; simp; simp
  | x :: l, y :: l', h => by
    rw [sameL, Bool.and_eq_true, sameX_iff x y, sameL_iff l l' (by simpa using h)]
    simp
end
theorem sameL_at {l l' : List R} (hl : l.length = l'.length) {i : Nat} {x y : R} (hx : l[i]? = some x) (hy : l'[i]? = some y) (h : sameX x y = false) : sameL l l' = false := by
  cases hs : sameL l l' with
  | false => rfl
  | true =>
    have e := (sameL_iff l l' hl).1 hs
    subst e
    rw [hx] at hy
    injection hy with hy
    subst hy
    rw [(sameX_iff x x).2 rfl] at h
    cases h
theorem sameL_all : ∀ {l l' : List R}, l.length = l'.length → (∀ (i : Nat) x y, l[i]? = some x → l'[i]? = some y → sameX x y = true) → sameL l l' = true
  | [], [], _, _ => by rw [sameL]; simp
  | x :: l, y :: l', hl, h => by
    rw [sameL, h 0 x y rfl rfl, sameL_all (by simpa using hl) (fun i a b ha hb => h (i + 1) a b (by simpa using ha) (by simpa using hb))]
    rfl
end Go.Proofs.YthjllgfceookcaaGreatDoor

namespace Go.Proofs.YthjllgfceookcaaGreatDoor
open Go.RowKit Rich

set_option maxRecDepth 100000 in
set_option maxHeartbeats 4000000 in
theorem sameR9_walk : ∀ (x y : R) (v v' : Value) (w : World), RichS w x v → RichS w y v' → fitsX x →
    Calls Tryz.prog 94 #[v, v'] w fun e w' => e = .returned (.bool (sameX x y)) ∧ Kept (fun _ => False) w w' := by
  refine R.ind fun k d l ih y v v' w hr hr' hf => ?_
  obtain ⟨k', d', l'⟩ := y
  have hS : sameX (.mk k d l) (.mk k' d' l') = (decide (k = k') && sameD d d' && decide (l.length = l'.length) && sameL l l') := by rw [sameX]
  generalize sameX (.mk k d l) (.mk k' d' l') = sx at *
  rw [RichS] at hr hr'
  obtain ⟨ao, cp, rfl, hk, ho, hA⟩ := hr
  obtain ⟨ao', cp', rfl, hk', ho', hA'⟩ := hr'
  rw [fitsX] at hf
  obtain ⟨_, _, _, hll, hfl⟩ := hf
  have HI := Lib.hid ih
  have HA := Lib.hid hA
  have HA' := Lib.hid hA'
  have HFL := Lib.hid hfl
  have HB := Lib.hid ((Box.made w 62 (richA k d (.slice ao l.length cp))).after_alloc (.cells (richA k' d' (.slice ao' l'.length cp')) 62))
  have HB' := Lib.hid (show Box ((w.alloc (.cells (richA k d (.slice ao l.length cp)) 62)).alloc (.cells (richA k' d' (.slice ao' l'.length cp')) 62)) (w.heap.size + 1) 62 (richA k' d' (.slice ao' l'.length cp')) from by
    have h := Box.made (w.alloc (.cells (richA k d (.slice ao l.length cp)) 62)) 62 (richA k' d' (.slice ao' l'.length cp'))
    rw [World.size_alloc] at h
    exact h)
  clear ih hA hA' hfl
  by_cases c1 : k = k'
  · subst c1
    cases hd : sameD d d' with
    | true =>
      have hdd := sameD_iff.1 hd
      subst hdd
      rw [hd] at hS
      by_cases c2 : l.length = l'.length
      · have HS := Lib.hid (show sx = sameL l l' by rw [hS, decide_eq_true rfl, decide_eq_true c2]; rfl)
        have HC2 := Lib.hid c2
        have hne : ((l.length : Int) != (l'.length : Int)) = false := by simp; omega
        clear hS hd c2
        go_enter Tryz.func94, Tryz.ntmps94
        go_wp2_with fail
        go_loopw [5] (fun v5 wr => ∃ (i : Nat), v5 = .int .i64 (i : Int) ∧ i ≤ l.length ∧ Hid (∀ (j : Nat) a b, j < i → l[j]? = some a → l'[j]? = some b → sameX a b = true) ∧ Hid (Box wr w.heap.size 62 (richA k d (.slice ao l.length cp))) ∧ Hid (Box wr (w.heap.size + 1) 62 (richA k d (.slice ao' l'.length cp'))) ∧ Hid (Kept (fun _ => False) w wr)) (fun v5 _ => l.length - (intOf v5).toNat)
        case atStart => exact ⟨0, rfl, Nat.zero_le _, Lib.hid (by intro j a b h; omega), HB, HB', Lib.hid (((Kept.refl _ _).alloc _).alloc _)⟩
        case round =>
          obtain ⟨i, rfl, hi, HE, HBr, HBr', HK⟩ := hrel
          rename World => wr
          have b6 : wr.cell? ⟨w.heap.size, 6, none⟩ = some (.slice ao l.length cp) := HBr.out.cell 6
          have b6' : wr.cell? ⟨w.heap.size + 1, 6, none⟩ = some (.slice ao' l'.length cp') := HBr'.out.cell 6
          by_cases hlt : i < l.length
          · obtain ⟨x, hx⟩ : ∃ x, l[i]? = some x := ⟨_, List.getElem?_eq_getElem hlt⟩
            have hlt' : i < l'.length := by have := HC2.out; omega
            obtain ⟨y, hy⟩ : ∃ y, l'[i]? = some y := ⟨_, List.getElem?_eq_getElem hlt'⟩
            obtain ⟨b, off, ap, cpp, rfl, hb, hrx, d0, d1, d2, d3, d4, d5, d6⟩ := (ArgS.kept HK.out ao 0 l HA.out).part hx
            obtain ⟨b', off', ap', cpp', rfl, hb', hry, g0, g1, g2, g3, g4, g5, g6⟩ := (ArgS.kept HK.out ao' 0 l' HA'.out).part hy
            have PC := fun W (hk : Kept (fun _ => False) wr W) => HI.out x (List.mem_of_getElem? hx) y _ _ W (RichS.kept hk x _ hrx) (RichS.kept hk y _ hry) (fitsL_mem HFL.out (List.mem_of_getElem? hx))
            have hi0 : (0 : Int) ≤ (i : Int) := by omega
            have hiI : (i : Int) < (l.length : Int) := by omega
            have hiJ : (i : Int) < (l'.length : Int) := by omega
            cases hxy : sameX x y with
            | true =>
              have HN := Lib.hid (show ∀ (j : Nat) a b, j < i + 1 → l[j]? = some a → l'[j]? = some b → sameX a b = true from fun j a b hj ha hb2 => by
                by_cases hji : j < i
                · exact HE.out j a b hji ha hb2
                · obtain rfl : j = i := by omega
                  rw [hx] at ha
                  rw [hy] at hb2
                  injection ha with ha
                  injection hb2 with hb2
                  rw [← ha, ← hb2]; exact hxy)
              rw [hxy] at PC
              clear hx hy hrx hry hxy
              go_wp2_with fail
              go_region_with ((first
                | (go_at_call 94; refine (PC _ (by repeat' (first | exact Kept.refl _ _ | refine Kept.drewN ?_ _ | refine Kept.drew ?_))).mono ?_; rintro e w5 ⟨rfl, hk5⟩; have HK := Lib.hid (Kept.trans HK.out ((Kept.drew (Kept.refl (fun _ => False) wr)).trans hk5 (fun _ _ h => h)) (fun _ _ h => h)); have HBr := Lib.hid (((Kept.drew (Kept.refl (fun _ => False) wr)).trans hk5 (fun _ _ h => h)).box HBr.out (fun h => h)); have HBr' := Lib.hid (((Kept.drew (Kept.refl (fun _ => False) wr)).trans hk5 (fun _ _ h => h)).box HBr'.out (fun h => h)))
                | fail))
              all_goals go_wp2_with fail
              all_goals go_roundw
              all_goals first
                | exact ⟨i + 1, by go_num, by omega, HN, HBr, HBr', HK⟩
                | (simp [intOf]; omega)
            | false =>
              have HF := Lib.hid (show sx = false by rw [HS.out]; exact sameL_at HC2.out hx hy hxy)
              rw [hxy] at PC
              clear hx hy hrx hry hxy
              go_wp2_with fail
              go_region_with ((first
                | (go_at_call 94; refine (PC _ (by repeat' (first | exact Kept.refl _ _ | refine Kept.drewN ?_ _ | refine Kept.drew ?_))).mono ?_; rintro e w5 ⟨rfl, hk5⟩; have HK := Lib.hid (Kept.trans HK.out ((Kept.drew (Kept.refl (fun _ => False) wr)).trans hk5 (fun _ _ h => h)) (fun _ _ h => h)); have HBr := Lib.hid (((Kept.drew (Kept.refl (fun _ => False) wr)).trans hk5 (fun _ _ h => h)).box HBr.out (fun h => h)); have HBr' := Lib.hid (((Kept.drew (Kept.refl (fun _ => False) wr)).trans hk5 (fun _ _ h => h)).box HBr'.out (fun h => h)))
                | fail))
              all_goals go_wp2_with fail
              all_goals go_ret
              all_goals exact ⟨by rw [HF.out]; rfl, HK.out⟩
          · have hge : ¬ (i : Int) < (l.length : Int) := by omega
            have HF := Lib.hid (show sx = true by
              rw [HS.out]
              exact sameL_all HC2.out fun j a b ha hb => HE.out j a b (by have := (List.getElem?_eq_some_iff.1 ha).1; omega) ha hb)
            go_wp2_with fail
            go_ret
            exact ⟨by rw [HF.out]; rfl, HK.out⟩
      · have HF := Lib.hid (show sx = false by rw [hS, decide_eq_false c2, Bool.and_false, Bool.false_and])
        have hne : ((l.length : Int) != (l'.length : Int)) = true := by simp; omega
        clear hS hd c2 HI
        go_enter Tryz.func94, Tryz.ntmps94
        go_wp2_with fail
        all_goals go_ret
        all_goals exact ⟨by rw [HF.out]; rfl, ((Kept.refl _ _).alloc _).alloc _⟩
    | false =>
      have HF := Lib.hid (show sx = false by rw [hS, hd, Bool.and_false, Bool.false_and, Bool.false_and])
      obtain ⟨n, o, ⟨e, vv, r⟩⟩ := d
      obtain ⟨n', o', ⟨e', vv', r'⟩⟩ := d'
      unfold sameD at hd
      clear hS HI HA HA' HFL HB HB'
      by_cases q1 : n = n'
      · subst q1
        by_cases q2 : o = o'
        · subst q2
          by_cases q3 : e = e'
          · subst q3
            by_cases q4 : vv = vv'
            · subst q4
              have q5 : ¬ r = r' := fun e => by subst e; simp at hd
              clear hd
              go_enter Tryz.func94, Tryz.ntmps94
              go_wp2_with fail
              all_goals go_ret
              all_goals exact ⟨by rw [HF.out]; rfl, ((Kept.refl _ _).alloc _).alloc _⟩
            · skip
              clear hd
              go_enter Tryz.func94, Tryz.ntmps94
              go_wp2_with fail
              all_goals go_ret
              all_goals exact ⟨by rw [HF.out]; rfl, ((Kept.refl _ _).alloc _).alloc _⟩
          · skip
            clear hd
            go_enter Tryz.func94, Tryz.ntmps94
            go_wp2_with fail
            all_goals go_ret
            all_goals exact ⟨by rw [HF.out]; rfl, ((Kept.refl _ _).alloc _).alloc _⟩
        · skip
          clear hd
          go_enter Tryz.func94, Tryz.ntmps94
          go_wp2_with fail
          all_goals go_ret
          all_goals exact ⟨by rw [HF.out]; rfl, ((Kept.refl _ _).alloc _).alloc _⟩
      · skip
        clear hd
        go_enter Tryz.func94, Tryz.ntmps94
        go_wp2_with fail
        all_goals go_ret
        all_goals exact ⟨by rw [HF.out]; rfl, ((Kept.refl _ _).alloc _).alloc _⟩
  · have HF := Lib.hid (show sx = false by rw [hS, decide_eq_false c1]; rfl)
    have hkk : ((k : Int) != (k' : Int)) = true := by simp; omega
    clear hS c1 HI
    go_enter Tryz.func94, Tryz.ntmps94
    go_wp2_with fail
    all_goals go_ret
    all_goals exact ⟨by rw [HF.out]; rfl, ((Kept.refl _ _).alloc _).alloc _⟩
end Go.Proofs.YthjllgfceookcaaGreatDoor

namespace Go.Proofs.YthjllgfceookcaaGreatDoor
open Go.RowKit Rich

end Go.Proofs.YthjllgfceookcaaGreatDoor
