/-
  The walk over the law ShapePlaces. The walks over the laws' own measure of layer 8: whether a rich dependency is more than a statement goes over. From a law's walk to its row: every argument reads behind the call as it read before. A rich dependency as an argument, opened: what it reads as, with each text and each row bounded. Arguments of laws, opened: whole numbers, bytes as numbers. Conditions: as each theorem states.
-/
import Derived.Test.YtndakcognjaeoaaDoorK13
import Derived.Test.YtndakcognjaeoaaDoorK10
import Derived.Test.YtndakcognjaeoaaDoorK04
import Derived.Test.YtndakcognjaeoaaDoorRows
import Derived.Handy
import Derived.Lib.Hide
import Derived.LoopN
import Derived.Deep.QuietTactic
import Derived.WalkKit
import Derived.ProofKit
import Derived.OpenShut
import Derived.SizedLaws
import Derived.ChangeOld
import Derived.Deep.Slices
import Derived.Deep.Fields
import Derived.Deep.Strs
namespace Go.Proofs.YtndakcognjaeoaaDoor
open Go.RowKit Ver Evr Span Dep Rich

theorem fitsS_mono {a b : Nat} (hb1 : 1 ≤ b) (h : b ≤ a) : ∀ (x : R) (al : Bool), fitsS a al x = true → fitsS b al x = true := by
  refine R.ind fun k d l ih al hf => ?_
  rw [fitsS] at hf ⊢
  split
  · rename_i hk; rw [if_pos hk] at hf; exact hf
  · rename_i hk
    rw [if_neg hk] at hf
    simp only [Bool.and_eq_true] at hf ⊢
    obtain ⟨⟨h1, h2⟩, h3⟩ := hf
    refine ⟨⟨?_, h2⟩, ?_⟩
    · unfold okS at h1 ⊢
      split
      · rename_i hc; rw [if_pos hc] at h1; exact h1
      · rename_i hc; rw [if_neg hc] at h1
        split
        · rename_i hc2; rw [if_pos hc2] at h1; exact h1
        · rename_i hc2; rw [if_neg hc2] at h1
          split
          · rename_i hc3; rw [if_pos hc3] at h1
            simp only [Bool.and_eq_true, decide_eq_true_eq] at h1 ⊢
            exact ⟨h1.1, by omega⟩
          · rename_i hc3; rw [if_neg hc3] at h1
            split
            · rename_i hc4; rw [if_pos hc4] at h1
              simp only [Bool.and_eq_true, decide_eq_true_eq] at h1 ⊢
              exact ⟨h1.1, by omega⟩
            · rename_i hc4; rw [if_neg hc4] at h1; cases h1
    · have key : ∀ (m : List R) (al : Bool), (∀ y ∈ m, y ∈ l) → fitsSL a al m = true → fitsSL b al m = true := by
        intro m
        induction m with
        | nil => intro al _ _; rw [fitsSL]
        | cons y m ihm =>
          intro al hm hy
          rw [fitsSL, Bool.and_eq_true] at hy ⊢
          exact ⟨ih y (hm y (by simp)) al hy.1, ihm al (fun z hz => hm z (by simp [hz])) hy.2⟩
      exact key l _ (fun _ h => h) h3
theorem mayS_ok {x : R} {w : Nat} : mayS x w = 0 ↔ (1 ≤ w ∧ w ≤ 3) ∧ count x ≤ 24 ∧ deep x ≤ 8 ∧ fitsS w false x = true := by
  unfold mayS
  by_cases h1 : w < 1 ∨ 3 < w
  · rw [if_pos h1]; constructor
    · intro h; cases h
    · intro h; omega
  · rw [if_neg h1]
    by_cases h2 : 24 < count x
    · rw [if_pos h2]; constructor
      · intro h; cases h
      · intro h; omega
    · rw [if_neg h2]
      by_cases h3 : 8 < deep x
      · rw [if_pos h3]; constructor
        · intro h; cases h
        · intro h; omega
      · rw [if_neg h3]
        by_cases h4 : fitsS w false x = true
        · rw [if_pos h4]; exact ⟨fun _ => ⟨by omega, by omega, by omega, h4⟩, fun _ => rfl⟩
        · rw [if_neg h4]; constructor
          · intro h; cases h
          · intro h; exact absurd h.2.2.2 h4
theorem mayS_less {x : R} {a b : Nat} (hb : 1 ≤ b) (h : b ≤ a) (hm : mayS x a = 0) : mayS x b = 0 := by
  rw [mayS_ok] at hm ⊢
  exact ⟨by omega, hm.2.1, hm.2.2.1, fitsS_mono hb h x _ hm.2.2.2⟩
theorem fitsS_free {w : Nat} : ∀ (x : R) (al : Bool), fitsS w al x = true → fitsS w false x = true := by
  refine R.ind fun k d l ih al hf => ?_
  rw [fitsS] at hf ⊢
  split
  · rename_i hk; rw [if_pos hk] at hf; exact hf
  · rename_i hk
    rw [if_neg hk] at hf
    simp only [Bool.and_eq_true] at hf ⊢
    obtain ⟨⟨h1, h2⟩, h3⟩ := hf
    refine ⟨⟨?_, h2⟩, ?_⟩
    · unfold okS at h1 ⊢
      cases al
      · exact h1
      · by_cases hc : k = 2 ∨ k = 3 ∨ k = 6
        · rw [if_pos hc] at h1 ⊢; exact h1
        · rw [if_neg hc] at h1 ⊢
          by_cases hc2 : k = 7
          · rw [if_pos hc2] at h1 ⊢; exact h1
          · rw [if_neg hc2] at h1
            simp at h1
    · have key : ∀ (m : List R) (al be : Bool), (be = true → al = true) → (∀ y ∈ m, y ∈ l) → fitsSL w al m = true → fitsSL w be m = true := by
        intro m
        induction m with
        | nil => intro al be _ _ _; rw [fitsSL]
        | cons y m ihm =>
          intro al be hab hm hy
          rw [fitsSL, Bool.and_eq_true] at hy ⊢
          refine ⟨?_, ihm al be hab (fun z hz => hm z (by simp [hz])) hy.2⟩
          cases be
          · exact ih y (hm y (by simp)) al hy.1
          · rw [hab rfl] at hy; exact hy.1
      refine key l (alS k al) (alS k false) ?_ (fun _ h => h) h3
      unfold alS
      cases al <;> simp
theorem deep_mem {k : Nat} {d : D} {l : List R} (hk : k ≠ 1) {y : R} (hy : y ∈ l) : deep y + 1 ≤ deep (.mk k d l) := by
  rw [deep, if_neg hk]
  have : ∀ m : List R, y ∈ m → deep y ≤ deeps m := by
    intro m
    induction m with
    | nil => intro h; simp at h
    | cons z m ih =>
      intro h
      rw [deeps]
      rcases List.mem_cons.1 h with rfl | h
      · omega
      · have := ih h; omega
  have := this l hy
  omega
theorem fitsSL_mem {w : Nat} {al : Bool} {y : R} : ∀ m : List R, y ∈ m → fitsSL w al m = true → fitsS w al y = true := by
  intro m
  induction m with
  | nil => intro h; simp at h
  | cons z m ih =>
    intro h hf
    rw [fitsSL, Bool.and_eq_true] at hf
    rcases List.mem_cons.1 h with rfl | h
    · exact hf.1
    · exact ih h hf.2
theorem mayS_part {x y : R} {w : Nat} (hy : y ∈ x.args) (hm : mayS x w = 0) : mayS y w = 0 := by
  obtain ⟨k, d, l⟩ := x
  have hy' : y ∈ l := hy
  rw [mayS_ok] at hm ⊢
  obtain ⟨h1, h2, h3, h4⟩ := hm
  rw [count] at h2
  have hc := count_mem l y hy'
  rw [fitsS] at h4
  by_cases hk : k = 1
  · rw [if_pos hk, Bool.and_eq_true] at h4
    have : l = [] := by simpa using h4.1
    rw [this] at hy'
    simp at hy'
  · rw [if_neg hk] at h4
    simp only [Bool.and_eq_true] at h4
    have hd := deep_mem (d := d) hk hy'
    exact ⟨h1, by omega, by omega, fitsS_free y _ (fitsSL_mem l hy' h4.2)⟩
set_option maxRecDepth 100000 in
set_option maxHeartbeats 4000000 in
theorem shapeplaces_walk (w : World) (hTB : TabW9 w) (hMB : MayP9 w) (x : R) (v : Value) (hr : RichS w x v) (wh : Nat) :
    Calls Tryd.prog 5 #[v, .int .u8 (wh : Int)] w fun e w' => e = .returned (.bool true) ∧ Kept (fun _ => False) w w' := by
  obtain ⟨k, d, l⟩ := x
  have hr0 := hr
  rw [RichS] at hr
  obtain ⟨ao, cp, rfl, hk, ho, hA⟩ := hr
  have HTB := Lib.hid hTB
  have HMB := Lib.hid hMB
  have HR := Lib.hid hr0
  have HA := Lib.hid hA
  have HB := Lib.hid (Box.made w 29 (richA k d (.slice ao l.length cp)))
  have HK := Lib.hid ((Kept.refl (fun _ => False) w).alloc (.cells (richA k d (.slice ao l.length cp)) 29))
  have b0 := HB.out.cell 0
  have b1 := HB.out.cell 1
  have b2 := HB.out.cell 2
  have b3 := HB.out.cell 3
  have b4 := HB.out.cell 4
  have b5 := HB.out.cell 5
  have b6 := HB.out.cell 6
  clear hTB hMB hr0 hA
  go_enter Tryd.func5, Tryd.ntmps5
  go_wp2_with fail
  refine (works9_walk _ (HTB.out.kept HK.out) (HMB.out.on HK.out)).mono ?_
  rintro e w1 ⟨rfl, hk1⟩
  have HB := Lib.hid (hk1.box HB.out (fun h => h)); have HK := Lib.hid (HK.out.trans hk1 (fun _ _ h => h)); clear hk1
  clear b0 b1 b2 b3 b4 b5 b6
  have b0 := HB.out.cell 0
  have b1 := HB.out.cell 1
  have b2 := HB.out.cell 2
  have b3 := HB.out.cell 3
  have b4 := HB.out.cell 4
  have b5 := HB.out.cell 5
  have b6 := HB.out.cell 6
  go_wp2_with fail
  refine (large9_walk _ _ _ (RichS.kept HK.out _ _ HR.out)).mono ?_
  rintro e w2 ⟨⟨b, rfl, hb⟩, hk2⟩
  have HB := Lib.hid (hk2.box HB.out (fun h => h)); have HK := Lib.hid (HK.out.trans hk2 (fun _ _ h => h)); clear hk2
  clear b0 b1 b2 b3 b4 b5 b6
  cases b with
  | true =>
    go_wp2_with fail
    refine (works9_walk _ (HTB.out.kept HK.out) (HMB.out.on HK.out)).mono ?_
    rintro e w3 ⟨rfl, hk3⟩
    go_wp2_with fail
    go_ret
    exact ⟨rfl, HK.out.trans hk3 (fun _ _ h => h)⟩
  | false =>
    have hct := hb rfl
    have hmc := fun (i : Nat) (W : World) (hW : Kept (fun _ => False) w W) => may9_walk (.mk k d l) _ i W (RichS.kept hW _ _ HR.out) (by omega) (HTB.out.kept hW) (HMB.out.on hW)
    have HMC := Lib.hid hmc
    have HCT := Lib.hid hct
    clear hb hct hmc
    obtain ⟨m1, hm1⟩ : ∃ z, z = mayS (.mk k d l) 1 := ⟨_, rfl⟩
    obtain ⟨m2, hm2⟩ : ∃ z, z = mayS (.mk k d l) 2 := ⟨_, rfl⟩
    obtain ⟨m3, hm3⟩ : ∃ z, z = mayS (.mk k d l) 3 := ⟨_, rfl⟩
    have h32 : m3 = 0 → m2 = 0 := fun h => by rw [hm2]; exact mayS_less (a := 3) (by omega) (by omega) (by rw [← hm3]; exact h)
    have h21 : m2 = 0 → m1 = 0 := fun h => by rw [hm1]; exact mayS_less (a := 2) (by omega) (by omega) (by rw [← hm2]; exact h)
    have c1 := fun W hW => HMC.out 1 W hW
    have c2 := fun W hW => HMC.out 2 W hW
    have c3 := fun W hW => HMC.out 3 W hW
    rw [← hm1] at c1
    rw [← hm2] at c2
    rw [← hm3] at c3
    obtain ⟨T, F, t0, ht0, hFk, hFs⟩ := class_of w2
    have fK := fun t => HK.out.trans (hFk t) (fun _ _ h => h)
    have fB := fun t => (hFk t).box HB.out (fun h => h)
    have q0 := fun t => (fB t).cell 0
    have q1 := fun t => (fB t).cell 1
    have q2 := fun t => (fB t).cell 2
    have q3 := fun t => (fB t).cell 3
    have q4 := fun t => (fB t).cell 4
    have q5 := fun t => (fB t).cell 5
    have q6 := fun t => (fB t).cell 6
    have k1 := fun t => c1 (F t) (fK t)
    have k2 := fun t => c2 (F t) (fK t)
    have k3 := fun t => c3 (F t) (fK t)
    have HFK := Lib.hid hFk
    have HFS := Lib.hid hFs
    clear hFk hFs fK fB c1 c2 c3 hm1 hm2 hm3
    have hne : Nonempty T := ⟨t0⟩
    go_wp2_with fail
    refine wp_region_class F t0 ht0 (by kernel_rfl) (by kernel_rfl) ?_
    repeat (go_big_quiet_step (first
      | (go_at_call 17; with_reducible exact class_call HFS.out (k1 _))
      | (go_at_call 17; with_reducible exact class_call HFS.out (k2 _))
      | (go_at_call 17; with_reducible exact class_call HFS.out (k3 _))
      ))
    refine wpQuiet_nil ?_
    rintro _ ⟨tz, rfl⟩
    have hkz := HFK.out tz
    have HB := Lib.hid (hkz.box HB.out (fun h => h)); have HK := Lib.hid (HK.out.trans hkz (fun _ _ h => h)); clear hkz
    generalize F tz = w4 at *
    have hor : ((m3 == 0) = true ∧ (m2 == 0) = true ∧ (m1 == 0) = true) ∨ ((m3 == 0) = false ∧ (m2 == 0) = true ∧ (m1 == 0) = true) ∨ ((m3 == 0) = false ∧ (m2 == 0) = false) := by
      by_cases g3 : m3 = 0
      · exact .inl ⟨by simpa using g3, by simpa using h32 g3, by simpa using h21 (h32 g3)⟩
      · by_cases g2 : m2 = 0
        · exact .inr (.inl ⟨by simpa using g3, by simpa using g2, by simpa using h21 g2⟩)
        · exact .inr (.inr ⟨by simpa using g3, by simpa using g2⟩)
    clear h32 h21 k1 k2 k3 q0 q1 q2 q3 q4 q5 q6 hne ht0 HFK HFS
    have b0 := HB.out.cell 0
    have b1 := HB.out.cell 1
    have b2 := HB.out.cell 2
    have b3 := HB.out.cell 3
    have b4 := HB.out.cell 4
    have b5 := HB.out.cell 5
    have b6 := HB.out.cell 6
    obtain ⟨m, hm⟩ : ∃ z, z = mayS (.mk k d l) wh := ⟨_, rfl⟩
    have MC := HMC.out wh w4 HK.out
    rw [← hm] at MC
    have HM := Lib.hid hm
    clear hm
    rcases hor with h | h | h
    · obtain ⟨e3, e2, e1⟩ := h
      have n2 : (m2 != 0) = !(m2 == 0) := rfl
      have n1 : (m1 != 0) = !(m1 == 0) := rfl
      rw [e2] at n2
      rw [e1] at n1
      rw [Bool.not_true] at n2
      rw [Bool.not_true] at n1
      go_wp2_with fail
      refine MC.mono ?_
      rintro e w5 ⟨rfl, hk5⟩
      have HB := Lib.hid (hk5.box HB.out (fun h => h)); have HK := Lib.hid (HK.out.trans hk5 (fun _ _ h => h)); clear hk5
      clear b0 b1 b2 b3 b4 b5 b6
      by_cases hm0 : m = 0
      · subst hm0
        have HM0 := Lib.hid HM.out.symm
        have hll : l.length ≤ 40000 := by have := HCT.out; rw [count] at this; have := counts_len l; omega
        have HLL := Lib.hid hll
        go_wp2_with fail
        go_loopw [8] (fun v8 wr => ∃ i : Nat, v8 = .int .i64 (i : Int) ∧ i ≤ l.length ∧ Hid (Box wr w.heap.size 29 (richA k d (.slice ao l.length cp))) ∧ Hid (Kept (fun _ => False) w wr)) (fun v8 _ => l.length - (intOf v8).toNat)
        case atStart => exact ⟨0, rfl, Nat.zero_le _, HB, HK⟩
        case round =>
          repeat clear HB
          repeat clear HK
          obtain ⟨i, rfl, hi, HB, HK⟩ := hrel
          rename World => wr
          have b6 : wr.cell? ⟨w.heap.size, 6, none⟩ = some (.slice ao l.length cp) := HB.out.cell 6
          by_cases hlt : i < l.length
          · obtain ⟨y, hy⟩ : ∃ y, l[i]? = some y := ⟨_, List.getElem?_eq_getElem hlt⟩
            obtain ⟨b, off, ao', cp', rfl, hb, hry, d0, d1, d2, d3, d4, d5, d6⟩ := (ArgS.kept HK.out ao 0 l HA.out).part hy
            have hi0 : (0 : Int) ≤ (i : Int) := by omega
            have hiI : (i : Int) < (l.length : Int) := by omega
            have hcy : count y ≤ 40000 := by have := HCT.out; rw [count] at this; have := count_mem l y (List.mem_of_getElem? hy); omega
            have PC := may9_walk y _ wh wr hry hcy (HTB.out.kept HK.out) (HMB.out.on HK.out)
            rw [mayS_part (x := .mk k d l) (List.mem_of_getElem? hy) HM0.out] at PC
            clear hry hy hcy
            go_wp2_with (first
              | (go_at_call 17; refine PC.mono ?_; rintro e w6 ⟨rfl, hk6⟩; have HB := Lib.hid (hk6.box HB.out (fun h => h)); have HK := Lib.hid (HK.out.trans hk6 (fun _ _ h => h)); clear hk6)
              | fail)
            go_roundw
            case rel => exact ⟨i + 1, by go_num, by omega, HB, HK⟩
            case measure => simp [intOf]; omega
          · have hge : ¬ (i : Int) < (l.length : Int) := by omega
            go_wp2_with fail
            go_ret
            exact ⟨rfl, HK.out⟩
      · have hmb : (m != 0) = true := by simpa using hm0
        go_wp2_with fail
        go_ret
        exact ⟨rfl, HK.out⟩
    · obtain ⟨e3, e2, e1⟩ := h
      have n2 : (m2 != 0) = !(m2 == 0) := rfl
      have n1 : (m1 != 0) = !(m1 == 0) := rfl
      rw [e2] at n2
      rw [e1] at n1
      rw [Bool.not_true] at n2
      rw [Bool.not_true] at n1
      go_wp2_with fail
      refine MC.mono ?_
      rintro e w5 ⟨rfl, hk5⟩
      have HB := Lib.hid (hk5.box HB.out (fun h => h)); have HK := Lib.hid (HK.out.trans hk5 (fun _ _ h => h)); clear hk5
      clear b0 b1 b2 b3 b4 b5 b6
      by_cases hm0 : m = 0
      · subst hm0
        have HM0 := Lib.hid HM.out.symm
        have hll : l.length ≤ 40000 := by have := HCT.out; rw [count] at this; have := counts_len l; omega
        have HLL := Lib.hid hll
        go_wp2_with fail
        go_loopw [8] (fun v8 wr => ∃ i : Nat, v8 = .int .i64 (i : Int) ∧ i ≤ l.length ∧ Hid (Box wr w.heap.size 29 (richA k d (.slice ao l.length cp))) ∧ Hid (Kept (fun _ => False) w wr)) (fun v8 _ => l.length - (intOf v8).toNat)
        case atStart => exact ⟨0, rfl, Nat.zero_le _, HB, HK⟩
        case round =>
          repeat clear HB
          repeat clear HK
          obtain ⟨i, rfl, hi, HB, HK⟩ := hrel
          rename World => wr
          have b6 : wr.cell? ⟨w.heap.size, 6, none⟩ = some (.slice ao l.length cp) := HB.out.cell 6
          by_cases hlt : i < l.length
          · obtain ⟨y, hy⟩ : ∃ y, l[i]? = some y := ⟨_, List.getElem?_eq_getElem hlt⟩
            obtain ⟨b, off, ao', cp', rfl, hb, hry, d0, d1, d2, d3, d4, d5, d6⟩ := (ArgS.kept HK.out ao 0 l HA.out).part hy
            have hi0 : (0 : Int) ≤ (i : Int) := by omega
            have hiI : (i : Int) < (l.length : Int) := by omega
            have hcy : count y ≤ 40000 := by have := HCT.out; rw [count] at this; have := count_mem l y (List.mem_of_getElem? hy); omega
            have PC := may9_walk y _ wh wr hry hcy (HTB.out.kept HK.out) (HMB.out.on HK.out)
            rw [mayS_part (x := .mk k d l) (List.mem_of_getElem? hy) HM0.out] at PC
            clear hry hy hcy
            go_wp2_with (first
              | (go_at_call 17; refine PC.mono ?_; rintro e w6 ⟨rfl, hk6⟩; have HB := Lib.hid (hk6.box HB.out (fun h => h)); have HK := Lib.hid (HK.out.trans hk6 (fun _ _ h => h)); clear hk6)
              | fail)
            go_roundw
            case rel => exact ⟨i + 1, by go_num, by omega, HB, HK⟩
            case measure => simp [intOf]; omega
          · have hge : ¬ (i : Int) < (l.length : Int) := by omega
            go_wp2_with fail
            go_ret
            exact ⟨rfl, HK.out⟩
      · have hmb : (m != 0) = true := by simpa using hm0
        go_wp2_with fail
        go_ret
        exact ⟨rfl, HK.out⟩
    · obtain ⟨e3, e2⟩ := h
      have n2 : (m2 != 0) = !(m2 == 0) := rfl
      have n1 : (m1 != 0) = !(m1 == 0) := rfl
      rw [e2] at n2
      clear n1
      rw [Bool.not_false] at n2
      skip
      go_wp2_with fail
      refine MC.mono ?_
      rintro e w5 ⟨rfl, hk5⟩
      have HB := Lib.hid (hk5.box HB.out (fun h => h)); have HK := Lib.hid (HK.out.trans hk5 (fun _ _ h => h)); clear hk5
      clear b0 b1 b2 b3 b4 b5 b6
      by_cases hm0 : m = 0
      · subst hm0
        have HM0 := Lib.hid HM.out.symm
        have hll : l.length ≤ 40000 := by have := HCT.out; rw [count] at this; have := counts_len l; omega
        have HLL := Lib.hid hll
        go_wp2_with fail
        go_loopw [8] (fun v8 wr => ∃ i : Nat, v8 = .int .i64 (i : Int) ∧ i ≤ l.length ∧ Hid (Box wr w.heap.size 29 (richA k d (.slice ao l.length cp))) ∧ Hid (Kept (fun _ => False) w wr)) (fun v8 _ => l.length - (intOf v8).toNat)
        case atStart => exact ⟨0, rfl, Nat.zero_le _, HB, HK⟩
        case round =>
          repeat clear HB
          repeat clear HK
          obtain ⟨i, rfl, hi, HB, HK⟩ := hrel
          rename World => wr
          have b6 : wr.cell? ⟨w.heap.size, 6, none⟩ = some (.slice ao l.length cp) := HB.out.cell 6
          by_cases hlt : i < l.length
          · obtain ⟨y, hy⟩ : ∃ y, l[i]? = some y := ⟨_, List.getElem?_eq_getElem hlt⟩
            obtain ⟨b, off, ao', cp', rfl, hb, hry, d0, d1, d2, d3, d4, d5, d6⟩ := (ArgS.kept HK.out ao 0 l HA.out).part hy
            have hi0 : (0 : Int) ≤ (i : Int) := by omega
            have hiI : (i : Int) < (l.length : Int) := by omega
            have hcy : count y ≤ 40000 := by have := HCT.out; rw [count] at this; have := count_mem l y (List.mem_of_getElem? hy); omega
            have PC := may9_walk y _ wh wr hry hcy (HTB.out.kept HK.out) (HMB.out.on HK.out)
            rw [mayS_part (x := .mk k d l) (List.mem_of_getElem? hy) HM0.out] at PC
            clear hry hy hcy
            go_wp2_with (first
              | (go_at_call 17; refine PC.mono ?_; rintro e w6 ⟨rfl, hk6⟩; have HB := Lib.hid (hk6.box HB.out (fun h => h)); have HK := Lib.hid (HK.out.trans hk6 (fun _ _ h => h)); clear hk6)
              | fail)
            go_roundw
            case rel => exact ⟨i + 1, by go_num, by omega, HB, HK⟩
            case measure => simp [intOf]; omega
          · have hge : ¬ (i : Int) < (l.length : Int) := by omega
            go_wp2_with fail
            go_ret
            exact ⟨rfl, HK.out⟩
      · have hmb : (m != 0) = true := by simpa using hm0
        go_wp2_with fail
        go_ret
        exact ⟨rfl, HK.out⟩
end Go.Proofs.YtndakcognjaeoaaDoor

namespace Go.Proofs.YtndakcognjaeoaaDoor
open Go.RowKit Rich

mutual
/-- What much answers: how many parts, and whether they are more than a statement goes over. -/
def muchX : R → Nat → Nat × Bool
  | .mk _ d l, dp => if 20 < dp ∨ 100 < l.length ∨ 500 < d.name.length + d.evr.ver.length ∨ 500 < d.evr.rel.length then (0, true) else muchL l dp 1
def muchL : List R → Nat → Nat → Nat × Bool
  | [], _, n => (n, false)
  | x :: l, dp, n => if (muchX x (dp + 1)).2 = true ∨ 2000 < n + (muchX x (dp + 1)).1 then (0, true) else muchL l dp (n + (muchX x (dp + 1)).1)
end
mutual
/-- Each text, and each row, takes less than 2^47. -/
def fitsX : R → Prop
  | .mk _ d l => d.name.length < 140737488355328 ∧ d.evr.ver.length < 140737488355328 ∧ d.evr.rel.length < 140737488355328 ∧ l.length < 140737488355328 ∧ fitsL l
def fitsL : List R → Prop
  | [] => True
  | x :: l => fitsX x ∧ fitsL l
end
mutual
def smallX : R → Prop
  | .mk _ d l => d.name.length + d.evr.ver.length ≤ 500 ∧ d.evr.rel.length ≤ 500 ∧ l.length ≤ 100 ∧ smallL l
def smallL : List R → Prop
  | [] => True
  | x :: l => smallX x ∧ smallL l
end
theorem fitsL_mem : ∀ {l : List R} {x : R}, fitsL l → x ∈ l → fitsX x
  | y :: l, x, h, hx => by
    rw [fitsL] at h
    rcases List.mem_cons.1 hx with rfl | hx
    · exact h.1
    · exact fitsL_mem h.2 hx
theorem smallL_mem : ∀ {l : List R} {x : R}, smallL l → x ∈ l → smallX x
  | y :: l, x, h, hx => by
    rw [smallL] at h
    rcases List.mem_cons.1 hx with rfl | hx
    · exact h.1
    · exact smallL_mem h.2 hx
mutual
theorem much_le : ∀ (x : R) (dp : Nat), (muchX x dp).1 ≤ 2000 ∧ ((muchX x dp).2 = false → (muchX x dp).1 = count x ∧ smallX x)
  | .mk k d l, dp => by
    rw [muchX]
    split
    · exact ⟨by simp, fun h => by simp at h⟩
    · rename_i hc
      obtain ⟨h1, h2⟩ := muchL_le l dp 1 (by omega)
      refine ⟨h1, fun h => ?_⟩
      obtain ⟨g1, g2⟩ := h2 h
      rw [count, smallX]
      exact ⟨by omega, by omega, by omega, by omega, g2⟩
theorem muchL_le : ∀ (l : List R) (dp n : Nat), n ≤ 2000 → (muchL l dp n).1 ≤ 2000 ∧ ((muchL l dp n).2 = false → (muchL l dp n).1 = n + counts l ∧ smallL l)
  | [], dp, n, hn => by rw [muchL, counts, smallL]; exact ⟨hn, fun _ => ⟨rfl, trivial⟩⟩
  | x :: l, dp, n, hn => by
    rw [muchL]
    split
    · exact ⟨by simp, fun h => by simp at h⟩
    · rename_i hc
      obtain ⟨h1, h2⟩ := much_le x (dp + 1)
      obtain ⟨g1, g2⟩ := muchL_le l dp (n + (muchX x (dp + 1)).1) (by omega)
      refine ⟨g1, fun h => ?_⟩
      obtain ⟨e1, e2⟩ := g2 h
      obtain ⟨f1, f2⟩ := h2 (by cases hb : (muchX x (dp + 1)).2 with | false => rfl | true => exact absurd (.inl hb) hc)
      rw [counts, smallL]
      exact ⟨by omega, f2, e2⟩
end
end Go.Proofs.YtndakcognjaeoaaDoor

namespace Go.Proofs.YtndakcognjaeoaaDoor
open Go.ChangeShapes Go.WideShapes Go.ChangeAt Go.RowKit

theorem own_ : ownKnob Tryd.prog.godebug = none := by kernel_rfl
theorem laid_ : laidOutB Tryd.prog = true := by kernel_rfl

section
variable {H : Type} {enc : TypeId × Value → H}

theorem trodAll_later {W W' : World} (hb : Below W.heap.size W W') : ∀ (ts : List TypeId) (vs : List Value) (ds : List (DataW H)) (ps : List MemPlace),
    (∀ t ∈ ts, Tryd.prog.readableRec t = true ∧ t < Tryd.prog.types.size) → DataW.TrodAll enc Tryd.prog W 0 (fun _ => true) true ts vs ds ps →
    DataW.TrodAll enc Tryd.prog W' 0 (fun b => decide (b < W.heap.size)) true ts vs ds ps
  | [], vs, ds, ps, _, h => by
    obtain ⟨rfl, rfl, rfl⟩ := trodAll_nil h
    exact trodAll_mk0
  | t :: ts, vs, ds, ps, hr, h => by
    obtain ⟨v, vs', d, ds', p, q, rfl, rfl, rfl, h0, r0⟩ := trodAll_cons h
    have lt : ∀ x ∈ p, x.block < W.heap.size := by
      obtain ⟨m, hm⟩ := h0
      exact DataW.trod_lt m _ _ _ hm
    exact trodAll_cons_mk (Below.trod laid_ (hr t (by simp)).1 (hr t (by simp)).2 h0 hb lt) (trodAll_later hb ts vs' ds' q (fun t ht => hr t (by simp [ht])) r0)

set_option maxRecDepth 100000 in
theorem law_lift (os : Os) (started : os.Started) (f : FuncId) (fn : Func) (s : ChangeSpec) (noInit : Tryd.prog.inits.idxOf? f = none) (hfn : Tryd.prog.funcs[f]? = some fn) (hvars : s.vars = [])
    (hread : ∀ t ∈ fn.params.toList, Tryd.prog.readableRec t = true ∧ t < Tryd.prog.types.size) (hres : fn.resultTypes = #[4])
    (hs : ∀ (ds : List (DataW H)) (vs : List Value) (W : World) (p : List MemPlace), DataW.TrodAll enc Tryd.prog W 0 (fun _ => true) true fn.params.toList vs ds p → s.fn H (ds ++ []) = { results := [.lit (.bool true)], args := ds })
    (witness : ∃ (w : World) (tape : Tape) (i : Input), w.os = os ∧ (w.forCall tape i).Shaped Tryd.checked.prog ∧ i.vars = [] ∧ Input.okWide Tryd.checked.prog (w.forCall tape i) .any w.heap.size f i ∧
      s.pre6 enc Tryd.checked.prog fn [] false (w.forCall tape i).memory i.args ∧ ({} : Assume).holds Tryd.checked.prog (lone (Frame.enter Tryd.checked.prog f i.args .normal) [] (w.forCall tape i)))
    (walk : ∀ (W : World) (base : Nat) (args : Array Value) (ds : List (DataW H)) (p : List MemPlace),
      (∀ (j : Nat) t v, fn.params[j]? = some t → args[j]? = some v → Value.okWide Tryd.prog W .any base t v) →
      DataW.TrodAll enc Tryd.prog W 0 (fun _ => true) true fn.params.toList args.toList ds p →
      (DataW.weightsEach Tryd.prog (fn.params.toList ++ s.plain.varTypes Tryd.prog) (ds ++ [])).all (· ≤ reachBytes) = true →
      Calls Tryd.prog f args W fun e W' => e = .returned (.bool true) ∧ Below W.heap.size W W') :
    ReturnsInHanded {} Tryd.checked os f .any (s.pre6 enc Tryd.prog fn [] false) (s.post enc Tryd.prog fn false true false false) := by
  refine returnsInHanded_of_change_sized (C := Tryd.checked) own_ started noInit hfn witness ?_
  intro W base args ds gs before hval0 hW _ hsz _
  have hW' := hW
  obtain ⟨p, q, hA, hV, rfl, hfz, hnd⟩ := hW
  rw [hvars] at hV
  obtain ⟨rfl, rfl⟩ := trodVars_none hV
  refine (walk W base args ds p hval0 hA hsz).mono fun e W' ⟨he, bel⟩ => ?_
  subst he
  have e1 := hs ds _ W p hA
  simp only [List.append_nil] at hW'
  refine ⟨_, rfl, ds, [], p, [], p, [], hW', ?_, ?_, ?_, bel.frame _, fun h => by cases h⟩
  · have e2 := e1
    simp only [List.append_nil] at e2 ⊢
    rw [e2, hres]
    exact trodAll_mk1 (shut_bool Tryd.underlying4 _)
  · have e2 := e1
    simp only [List.append_nil] at e2 ⊢
    rw [e2]
    exact trodAll_later bel _ _ _ _ hread hA
  · have e2 := e1
    simp only [List.append_nil] at e2 ⊢
    rw [e2, hvars]
    rfl
end
end Go.Proofs.YtndakcognjaeoaaDoor

namespace Go.Proofs.YtndakcognjaeoaaDoor
open Go.ChangeShapes Go.WideShapes Go.Deep Go.RowKit Rich

theorem fitsL_of : ∀ {l : List R}, (∀ y ∈ l, fitsX y) → fitsL l
  | [], _ => by rw [fitsL]; trivial
  | x :: l, h => by rw [fitsL]; exact ⟨h x (by simp), fitsL_of fun y hy => h y (by simp [hy])⟩
section
variable {H : Type} {enc : TypeId × Value → H} {W : World}
theorem weights_each8 {P : Program} {e : TypeId} : ∀ {l : List (DataW H)} {d : DataW H}, d ∈ l → ∀ n ∈ d.weights P e, n ∈ DataW.weightsAll P e l
  | x :: l, d, hd, n, hn => by
    rw [DataW.weightsAll, List.mem_append]
    rcases List.mem_cons.1 hd with rfl | hd
    · exact .inl hn
    · exact .inr (weights_each8 hd n hn)
set_option maxRecDepth 100000 in
set_option maxHeartbeats 1000000 in
theorem rich_trod : ∀ (fuel : Nat) (cs : List Value) (d : DataW H) (ps : List MemPlace), DataW.trod enc Tryd.prog W 0 (fun _ => true) true fuel 29 cs = some (d, ps) → (∀ n ∈ d.weights Tryd.prog 29, n ≤ reachBytes) →
    ∃ x, RichS W x (.agg cs.toArray) ∧ fitsX x := by
  intro fuel
  induction fuel using Nat.strongRecOn with
  | ind fuel ih =>
    intro cs d ps hf hw
    have h7 : (Tryd.prog).cellsOf 29 = 7 := by kernel_rfl
    have h5 : (Tryd.prog).cellsOf 26 = 5 := by kernel_rfl
    have h3 : (Tryd.prog).cellsOf 24 = 3 := by kernel_rfl
    have cu : (Tryd.prog).cellsOf 5 = 1 := by kernel_rfl
    have ci : (Tryd.prog).cellsOf 3 = 1 := by kernel_rfl
    have cst : (Tryd.prog).cellsOf 9 = 1 := by kernel_rfl
    have csl : (Tryd.prog).cellsOf 27 = 1 := by kernel_rfl
    have hreach := reachBytes_lt
    obtain ⟨xs, m, hfu, hd, hlen, hxs, hall⟩ := DataW.trod_struct Tryd.underlying29 hf
    injection hd with hd _
    rw [h7] at hlen
    match cs, hlen with
    | [a, b, c, e, f, g, h], _ =>
      have f0 := hall 0 _ rfl
      have f1 := hall 1 _ rfl
      have f2 := hall 2 _ rfl
      have hx3 : xs.length = 3 := hxs
      match xs, hx3 with
      | [x0, x1, x2], _ =>
        change DataW.trod enc Tryd.prog W 0 (fun _ => true) true m 5 (([a, b, c, e, f, g, h].drop 0).take ((Tryd.prog).cellsOf 5)) = some x0 at f0
        change DataW.trod enc Tryd.prog W 0 (fun _ => true) true m 26 (([a, b, c, e, f, g, h].drop 1).take ((Tryd.prog).cellsOf 26)) = some x1 at f1
        change DataW.trod enc Tryd.prog W 0 (fun _ => true) true m 27 (([a, b, c, e, f, g, h].drop 6).take ((Tryd.prog).cellsOf 27)) = some x2 at f2
        rw [cu] at f0
        rw [h5] at f1
        rw [csl] at f2
        obtain ⟨z, e0, _, hwf⟩ := DataW.trod_int Tryd.underlying5 f0
        have hb := bounds_u8 hwf
        obtain ⟨ys, m1, _, hy, _, hys, hal1⟩ := DataW.trod_struct Tryd.underlying26 f1
        have k0 := hal1 0 _ rfl
        have k1 := hal1 1 _ rfl
        have k2 := hal1 2 _ rfl
        have hy3 : ys.length = 3 := hys
        match ys, hy3 with
        | [y0, y1, y2], _ =>
          change DataW.trod enc Tryd.prog W 0 (fun _ => true) true m1 9 (([b, c, e, f, g].drop 0).take ((Tryd.prog).cellsOf 9)) = some y0 at k0
          change DataW.trod enc Tryd.prog W 0 (fun _ => true) true m1 5 (([b, c, e, f, g].drop 1).take ((Tryd.prog).cellsOf 5)) = some y1 at k1
          change DataW.trod enc Tryd.prog W 0 (fun _ => true) true m1 24 (([b, c, e, f, g].drop 2).take ((Tryd.prog).cellsOf 24)) = some y2 at k2
          rw [cst] at k0
          rw [cu] at k1
          rw [h3] at k2
          obtain ⟨nm, en, en2, _⟩ := DataW.trod_string Tryd.underlying9 k0
          obtain ⟨zo, eo, _, hwo⟩ := DataW.trod_int Tryd.underlying5 k1
          have hbo := bounds_u8 hwo
          obtain ⟨ws, m2, _, hv, _, hws, hal2⟩ := DataW.trod_struct Tryd.underlying24 k2
          have j0 := hal2 0 _ rfl
          have j1 := hal2 1 _ rfl
          have j2 := hal2 2 _ rfl
          have hw3 : ws.length = 3 := hws
          match ws, hw3 with
          | [w0, w1, w2], _ =>
            change DataW.trod enc Tryd.prog W 0 (fun _ => true) true m2 3 (([e, f, g].drop 0).take ((Tryd.prog).cellsOf 3)) = some w0 at j0
            change DataW.trod enc Tryd.prog W 0 (fun _ => true) true m2 9 (([e, f, g].drop 1).take ((Tryd.prog).cellsOf 9)) = some w1 at j1
            change DataW.trod enc Tryd.prog W 0 (fun _ => true) true m2 9 (([e, f, g].drop 2).take ((Tryd.prog).cellsOf 9)) = some w2 at j2
            rw [ci] at j0
            rw [cst] at j1 j2
            obtain ⟨ep, ee, _, _⟩ := DataW.trod_int Tryd.underlying3 j0
            obtain ⟨vr, ev, ev2, _⟩ := DataW.trod_string Tryd.underlying9 j1
            obtain ⟨rl, er, er2, _⟩ := DataW.trod_string Tryd.underlying9 j2
            have g0 : [a] = [Value.int .u8 z] := e0
            have g1 : [b] = [Value.string nm] := en
            have g2 : [c] = [Value.int .u8 zo] := eo
            have g3 : [e] = [Value.int .i64 ep] := ee
            have g4 : [f] = [Value.string vr] := ev
            have g5 : [g] = [Value.string rl] := er
            injection g0 with g0 _
            injection g1 with g1 _
            injection g2 with g2 _
            injection g3 with g3 _
            injection g4 with g4 _
            injection g5 with g5 _
            subst g0; subst g1; subst g2; subst g3; subst g4; subst g5
            obtain ⟨k, rfl⟩ := Int.eq_ofNat_of_zero_le hb.1
            obtain ⟨o, rfl⟩ := Int.eq_ofNat_of_zero_le hbo.1
            -- what the parts weigh
            have hx1 : x1.1 = .agg [.lit (.string nm.data.toList), y1.1, .agg [w0.1, .lit (.string vr.data.toList), .lit (.string rl.data.toList)]] := by
              rw [hy]
              simp only [List.map_cons, List.map_nil]
              rw [en2, hv]
              simp only [List.map_cons, List.map_nil]
              rw [ev2, er2]
            have wn : nm.size ≤ reachBytes := hw _ (by
              rw [hd]
              simp only [List.map_cons, List.map_nil, DataW.weights, Tryd.underlying29, hx1]
              simp [DataW.weightsEach, DataW.weights, Tryd.underlying26])
            have wv : vr.size ≤ reachBytes := hw _ (by
              rw [hd]
              simp only [List.map_cons, List.map_nil, DataW.weights, Tryd.underlying29, hx1]
              simp [DataW.weightsEach, DataW.weights, Tryd.underlying26, Tryd.underlying24])
            have wr : rl.size ≤ reachBytes := hw _ (by
              rw [hd]
              simp only [List.map_cons, List.map_nil, DataW.weights, Tryd.underlying29, hx1]
              simp [DataW.weightsEach, DataW.weights, Tryd.underlying26, Tryd.underlying24])
            have wsl : ∀ n ∈ x2.1.weights Tryd.prog 27, n ≤ reachBytes := fun n hn => hw n (by
              rw [hd]
              simp only [List.map_cons, List.map_nil, DataW.weights, Tryd.underlying29]
              simp [DataW.weightsEach]
              exact .inr (.inr hn))
            have fin : ∀ (ao : Option Addr) (cp : Nat) (l : List R), h = .slice ao l.length cp → ArgS W ao 0 l → l.length < 140737488355328 → (∀ y ∈ l, fitsX y) →
                ∃ x, RichS W x (.agg [Value.int .u8 (k : Int), Value.string nm, Value.int .u8 (o : Int), Value.int .i64 ep, Value.string vr, Value.string rl, h].toArray) ∧ fitsX x := by
              intro ao cp l hl hA hll hfit
              refine ⟨.mk k ⟨nm.data.toList, o, ⟨ep, vr.data.toList, rl.data.toList⟩⟩ l, ?_, ?_⟩
              · rw [RichS]
                exact ⟨ao, cp, by rw [hl], by omega, by show o < 256; omega, hA⟩
              · rw [fitsX]
                have e1 : nm.data.toList.length = nm.size := rfl
                have e2 : vr.data.toList.length = vr.size := rfl
                have e3 : rl.data.toList.length = rl.size := rfl
                exact ⟨by show nm.data.toList.length < _; omega, by show vr.data.toList.length < _; omega, by show rl.data.toList.length < _; omega, hll, fitsL_of hfit⟩
            rcases DataW.trod_slice Tryd.underlying27 f2 with ⟨eh, _⟩ | ⟨ad, len, cap, elems, rest, n, hn, eh, hx2, _, hlc, _, hel, hat, _, _⟩
            · have eh' : [h] = [Value.slice none 0 0] := eh
              injection eh' with eh' _
              exact fin none 0 [] eh' (by rw [ArgS]; trivial) (by simp) (by simp)
            · have eh' : [h] = [Value.slice (some ad) len cap] := eh
              injection eh' with eh' _
              rw [h7] at hat
              have hby : (Tryd.prog).bytesOf 29 = 96 := by kernel_rfl
              have hx21 : x2.1 = .slice (elems.map (·.1)) (rest.map (·.1)) := by rw [hx2]
              rw [hx21] at wsl
              have wlen : (elems.length + rest.length) * 96 ≤ reachBytes := by
                refine wsl _ ?_
                simp only [DataW.weights, Tryd.underlying27, hby, List.length_map]
                simp
              have key : ∀ i, i < len → ∃ x, ∃ cs' : List Value, (∀ j, j < 7 → W.cell? ((ad.add (i * 7)).add j) = cs'[j]?) ∧ cs'.length = 7 ∧ RichS W x (.agg cs'.toArray) ∧ fitsX x := by
                intro i hi
                have hk := hat i hi
                have hie : i < elems.length := by omega
                rw [List.getElem?_eq_getElem hie] at hk
                obtain ⟨cs', hc1, hc2⟩ := Option.bind_eq_some_iff.1 hk
                obtain ⟨_, hcl, hcat⟩ := World.cells?_some hc1
                obtain ⟨x, hxr, hxf⟩ := ih n (by omega) cs' elems[i].1 elems[i].2 hc2 (fun q hq => wsl q (by
                  simp only [DataW.weights, Tryd.underlying27, List.mem_cons, List.mem_append]
                  exact .inr (.inl (weights_each8 (List.mem_map.2 ⟨elems[i], List.getElem_mem hie, rfl⟩) q hq))))
                exact ⟨x, cs', hcat, hcl, hxr, hxf⟩
              by_cases hz : len = 0
              · subst hz
                exact fin (some ad) cap [] eh' (by rw [ArgS]; trivial) (by simp) (by simp)
              · obtain ⟨bb, off, spot⟩ := ad
                have hspot : spot = none ∧ bb < W.heap.size := by
                  obtain ⟨_, cs', hc, hcl, _, _⟩ := key 0 (by omega)
                  have h00 := hc 0 (by omega)
                  rw [List.getElem?_eq_getElem (by omega)] at h00
                  refine ⟨by simpa [Addr.add] using World.cell?_spot h00, ?_⟩
                  simpa [Addr.add] using World.block_lt_of_cell? W _ h00
                obtain ⟨rfl, hbb⟩ := hspot
                have hinh : Inhabited R := ⟨.mk 0 zD []⟩
                obtain ⟨X, hX⟩ := choose_lt (α := R) (p := fun i x => ∃ cs' : List Value, (∀ j, j < 7 → W.cell? (((⟨bb, off, none⟩ : Addr).add (i * 7)).add j) = cs'[j]?) ∧ cs'.length = 7 ∧ RichS W x (.agg cs'.toArray) ∧ fitsX x) key
                refine fin (some ⟨bb, off, none⟩) cap ((List.range len).map X) (by rw [eh']; simp) (ArgS.of fun i x hx => ?_) (by simp; omega) (fun y hy => ?_)
                · simp only [List.getElem?_map, Option.map_eq_some_iff] at hx
                  obtain ⟨q, hq, rfl⟩ := hx
                  obtain ⟨hlt, hq⟩ := List.getElem?_eq_some_iff.1 hq
                  simp at hlt hq
                  subst hq
                  obtain ⟨cs', hc, hcl, hr, _⟩ := hX i (by omega)
                  refine ⟨bb, off, _, rfl, hbb, hr, fun j u hj => ?_⟩
                  have hj' : cs'[j]? = some u := hj
                  have hjl : j < 7 := by have := (List.getElem?_eq_some_iff.1 hj').1; omega
                  have := hc j hjl
                  rw [Go.Deep.add_add, Addr.add_lit, hj'] at this
                  rw [← this]
                  congr 2
                  omega
                · obtain ⟨q, hq, rfl⟩ := List.mem_map.1 hy
                  obtain ⟨_, _, _, _, hfx⟩ := hX q (by simpa using hq)
                  exact hfx
variable {ts : List TypeId} {ds : List (DataW H)} {j : Nat} {v : Value} {d : DataW H} {p : List MemPlace}
set_option maxRecDepth 100000 in
theorem rich_open (h : DataW.Trod enc Tryd.prog W 0 (fun _ => true) true 29 v d p) (hz : (DataW.weightsEach Tryd.prog ts ds).all (· ≤ reachBytes) = true) (ht : ts[j]? = some 29) (hd : ds[j]? = some d) {r : Reach} {b0 : Nat} (hv : Value.okWide Tryd.prog W r b0 29 v) :
    ∃ x, RichS W x v ∧ fitsX x := by
  obtain ⟨cs, rfl, hsz⟩ := okWide_struct Tryd.underlying29 hv
  obtain ⟨fuel, hf⟩ := h
  have := rich_trod fuel cs.toList d p hf (fun n hn => by
    have := List.all_eq_true.1 hz _ (DataW.weights_mem_each ht hd n hn)
    simpa using this)
  simpa using this
end
end Go.Proofs.YtndakcognjaeoaaDoor

namespace Go.Proofs.YtndakcognjaeoaaDoor
open Go.ChangeShapes Go.WideShapes Go.Deep Go.RowKit

section
variable {H : Type} {enc : TypeId × Value → H} {W : World} {v : Value} {d : DataW H} {p : List MemPlace}
set_option maxRecDepth 100000 in
theorem whole_open (h : DataW.Trod enc Tryd.prog W 0 (fun _ => true) true 3 v d p) {r : Reach} {b0 : Nat} (hv : Value.okWide Tryd.prog W r b0 3 v) : ∃ z : Int, v = .int .i64 z := by
  obtain ⟨z0, rfl⟩ : ∃ z0, v = .int .i64 z0 := by
    simp only [Value.okWide, Tryd.underlying3, Cell.okWide] at hv
    cases v <;> simp_all [Cell.ok]
  exact ⟨z0, rfl⟩
set_option maxRecDepth 100000 in
theorem op_open (h : DataW.Trod enc Tryd.prog W 0 (fun _ => true) true 5 v d p) {r : Reach} {b0 : Nat} (hv : Value.okWide Tryd.prog W r b0 5 v) : ∃ o : Nat, v = .int .u8 (o : Int) ∧ o < 256 := by
  obtain ⟨z0, rfl⟩ : ∃ z0, v = .int .u8 z0 := by
    simp only [Value.okWide, Tryd.underlying5, Cell.okWide] at hv
    cases v <;> simp_all [Cell.ok]
  obtain ⟨fuel, hf⟩ := h
  obtain ⟨z, e, _, hw⟩ := DataW.trod_int Tryd.underlying5 hf
  have hb := bounds_u8 hw
  have : [Value.int .u8 z0] = [Value.int .u8 z] := e
  injection this with h1 _
  injection h1 with _ h1
  subst h1
  obtain ⟨n, rfl⟩ := Int.eq_ofNat_of_zero_le hb.1
  exact ⟨n, rfl, by omega⟩
end
end Go.Proofs.YtndakcognjaeoaaDoor
