/-
  The walk over the law ShapeCounted. What the slots of a region hold that draws its order: literals, rich dependencies, rows of dependencies. Nothing of the program is named here but its types. Conditions: as each theorem states.
-/
import Derived.Test.YtndakcognjaeoaaDoorK16
import Derived.Test.YtndakcognjaeoaaDoorK19
import Derived.Test.YtndakcognjaeoaaDoorK11
import Derived.Test.YtndakcognjaeoaaDoorK17
namespace Go.Proofs.YtndakcognjaeoaaDoor
open Go.RowKit Ver Evr Span Dep Rich

theorem atoms9_walk (x : R) (v : Value) (w : World) (hS : RichS w x v) (hc : count x ≤ 40000) (hf : fitsX x) : Calls Tryd.prog 21 #[v] w fun e w' => (∃ v, e = .returned v ∧ w'.ownsRow w.heap.size 26 5 v (atomsS x).length (cellsD9 (atomsS x))) ∧ Kept (fun _ => False) w w' := by
  obtain ⟨t, e1, e2, e3⟩ := rt_of _ _ hS
  rw [← e1, ← e2]
  exact atoms_t t w e3 (by rw [e1]; omega) (by rw [e1]; exact hf)
theorem ok_two {k n w : Nat} {al : Bool} (h : okS k n w al = true) : 2 ≤ n := by
  unfold okS at h
  by_cases h1 : k = 2 ∨ k = 3 ∨ k = 6
  · rw [if_pos h1] at h; simpa using h
  · rw [if_neg h1] at h
    by_cases h2 : k = 7
    · rw [if_pos h2] at h; have := of_decide_eq_true h; omega
    · rw [if_neg h2] at h
      by_cases h3 : k = 4
      · rw [if_pos h3] at h; simp at h; omega
      · rw [if_neg h3] at h
        by_cases h4 : k = 5
        · rw [if_pos h4] at h; simp at h; omega
        · rw [if_neg h4] at h; cases h
theorem fits_deep {w : Nat} : ∀ (x : R) (al : Bool), fitsS w al x = true → deep x < count x ∧ 0 < (atomsS x).length := by
  refine R.ind fun k d l ih al hf => ?_
  rw [fitsS] at hf
  rw [deep, count, atomsS]
  by_cases hk : k = 1
  · rw [if_pos hk, if_pos hk]
    exact ⟨by omega, by simp⟩
  · rw [if_neg hk] at hf
    rw [if_neg hk]
    simp only [Bool.and_eq_true] at hf
    have h2 := ok_two hf.1.1
    have key : ∀ m : List R, (∀ y ∈ m, y ∈ l) → fitsSL w (alS k al) m = true → m ≠ [] → deeps m < counts m ∧ 0 < (atomsSL m).length := by
      intro m
      induction m with
      | nil => intro _ _ h; exact absurd rfl h
      | cons y m ihm =>
        intro hm hfm _
        rw [fitsSL, Bool.and_eq_true] at hfm
        have h1 := ih y (hm y (by simp)) _ hfm.1
        rw [deeps, counts, atomsSL, List.length_append]
        by_cases hn : m = []
        · subst hn; rw [deeps, counts]; exact ⟨by omega, by omega⟩
        · have h3 := ihm (fun z hz => hm z (by simp [hz])) hfm.2 hn
          exact ⟨by omega, by omega⟩
    have h := key l (fun _ h => h) hf.2 (by intro h; rw [h] at h2; simp at h2)
    exact ⟨by omega, by rw [List.length_append]; omega⟩
theorem atomsSL_take {l : List R} {i : Nat} {x : R} (h : l[i]? = some x) : atomsSL (l.take (i + 1)) = atomsSL (l.take i) ++ atomsS x := by
  rw [List.take_add_one, h]
  have app : ∀ a b : List R, atomsSL (a ++ b) = atomsSL a ++ atomsSL b := by
    intro a b
    induction a with
    | nil => rw [atomsSL, List.nil_append, List.nil_append]
    | cons y a ih => rw [List.cons_append, atomsSL, atomsSL, ih, List.append_assoc]
  rw [app]
  show _ ++ atomsSL [x] = _
  rw [atomsSL, atomsSL, List.append_nil]
theorem atomsSL_le : ∀ m : List R, (atomsSL m).length ≤ counts m := by
  intro m
  induction m with
  | nil => rw [atomsSL, counts]; simp
  | cons y m ih => rw [atomsSL, counts, List.length_append]; have := atomsS_len y; omega
theorem Box.grownNone9 {w w' : World} {g : Nat} {t : TypeId} {cs : Array Value} (h : Box w g t cs) (hg : w.grownBy w' (Value.slice none 0 0).ownBlock) : Box w' g t cs := (hg.block g h.lt (by simp [Value.ownBlock])).trans h
theorem deps_src {w : World} {ao : Option Addr} {n cp : Nat} {l : List D} (h : DepsS w (.slice ao n cp) l) : (ao = none → n = 0 ∧ cp = 0) ∧ n = l.length ∧ ∀ (j : Nat) (u : Value), (cellsD9 l)[j]? = some u → ∃ ad, ao = some ad ∧ w.cell? (ad.add j) = some u := by
  obtain ⟨ao', cp', e, h1, h2⟩ := h
  injection e with e1 e2 e3
  subst e1; subst e3
  refine ⟨fun h => ⟨by rw [e2]; exact (h1 h).1, (h1 h).2⟩, e2, fun j u hj => ?_⟩
  obtain ⟨b, off, g1, _, g3⟩ := h2 j u hj
  exact ⟨_, g1, by rw [Addr.add_lit]; exact g3⟩
set_option maxRecDepth 100000 in
set_option maxHeartbeats 8000000 in
theorem shapecounted_walk (w : World) (hTB : TabW9 w) (hMB : MayP9 w) (x : R) (v : Value) (hr : RichS w x v) (hf : fitsX x) :
    Calls Tryd.prog 7 #[v] w fun e w' => e = .returned (.bool true) ∧ Kept (fun _ => False) w w' := by
  obtain ⟨i0, hi, hz0, hz1, hz2⟩ := info_get9 info_dep9
  obtain ⟨k, d, l⟩ := x
  have hr0 := hr
  rw [RichS] at hr
  obtain ⟨ao, cp, rfl, hk, ho, hA⟩ := hr
  have hf0 := hf
  rw [fitsX] at hf
  have HTB := Lib.hid hTB
  have HMB := Lib.hid hMB
  have HR := Lib.hid hr0
  have HA := Lib.hid hA
  have HFX := Lib.hid hf0
  have HFL := Lib.hid hf.2.2.2.2
  have HB := Lib.hid (Box.made w 29 (richA k d (.slice ao l.length cp)))
  have HK := Lib.hid ((Kept.refl (fun _ => False) w).alloc (.cells (richA k d (.slice ao l.length cp)) 29))
  have b0 := HB.out.cell 0
  have b1 := HB.out.cell 1
  have b2 := HB.out.cell 2
  have b3 := HB.out.cell 3
  have b4 := HB.out.cell 4
  have b5 := HB.out.cell 5
  have b6 := HB.out.cell 6
  clear hTB hMB hr0 hA hf hf0
  go_enter Tryd.func7, Tryd.ntmps7
  go_wp2_with fail
  refine (works9_walk _ (HTB.out.kept HK.out) (HMB.out.on HK.out)).mono ?_
  rintro e w1 ⟨rfl, hk1⟩
  have HB := Lib.hid (hk1.box HB.out (fun h => h)); have HK := Lib.hid (HK.out.trans hk1 (fun _ _ h => h))
  clear b0 b1 b2 b3 b4 b5 b6
  have b0 := HB.out.cell 0
  have b1 := HB.out.cell 1
  have b2 := HB.out.cell 2
  have b3 := HB.out.cell 3
  have b4 := HB.out.cell 4
  have b5 := HB.out.cell 5
  have b6 := HB.out.cell 6
  go_wp2_with fail
  refine (large9_walk _ _ _ (RichS.kept HK.out _ _ HR.out)).mono ?_
  rintro e w2 ⟨⟨b, rfl, hb⟩, hk2⟩
  have HB := Lib.hid (hk2.box HB.out (fun h => h)); have HK := Lib.hid (HK.out.trans hk2 (fun _ _ h => h))
  clear b0 b1 b2 b3 b4 b5 b6
  have b0 := HB.out.cell 0
  have b1 := HB.out.cell 1
  have b2 := HB.out.cell 2
  have b3 := HB.out.cell 3
  have b4 := HB.out.cell 4
  have b5 := HB.out.cell 5
  have b6 := HB.out.cell 6
  cases b with
  | true =>
    go_wp2_with fail
    refine (works9_walk _ (HTB.out.kept HK.out) (HMB.out.on HK.out)).mono ?_
    rintro e w3 ⟨rfl, hk3⟩
    go_wp2_with fail
    go_ret
    exact ⟨rfl, HK.out.trans hk3 (fun _ _ h => h)⟩
  | false =>
    have hct := hb rfl
    have HCT := Lib.hid hct
    have HCL := Lib.hid (show 1 + counts l < 600 by rw [count] at hct; exact hct)
    have HAL := Lib.hid (atomsS_len (.mk k d l))
    clear hb hct hk1 hk2
    have hsz2 := HK.out.size
    by_cases hk1 : k = 1
    · have hkb : ((k : Int) == 1) = true := by simp; omega
      have HA0 := Lib.hid (show (if k = 1 then [d] else []) = [d] by rw [if_pos hk1])
      clear hk1
      go_wp2_with (first
        | (at_builtin; (refine wpList_append_own_at _ rfl _ _ 39 rfl (w.heap.size + 1) 26 i0 (.agg #[.string ⟨#[]⟩, .int .u8 0, .int .i64 0, .string ⟨#[]⟩, .string ⟨#[]⟩]) 5 64 Tryd.underlying39 hi hz0 hz1 hz2 rfl (by decide) (.slice none 0 0) 0 [] rfl (World.ownsRow_nil _ _ _ _) ⟨w2.heap.size, 0, none⟩ 1 1 (cellsD9 [d]) rfl rfl (one_dep9 (Box.made w2 26 (depA d))) (cellsD9_one _) (by show _ ≤ 9223372036854775807; omega) (by omega) (by have := HB.out.lt; simp; omega) ?_; intro v9 w9 hown9 hgrow9 _ hblk9; obtain ⟨a9, c9, e9⟩ := own_form hown9; subst e9; have HO9 := Lib.hid hown9; have HK9 := Lib.hid ((HK.out.alloc (.cells (depA d) 26)).grown hgrow9 (fun j hj => by simp [Value.ownBlock] at hj)); have HB9 := Lib.hid ((HB.out.after_alloc (.cells (depA d) 26)).grownNone9 hgrow9); clear hown9 hgrow9 hblk9))
        | fail)
      have HO0 : w9.ownsRow (w.heap.size + 1) 26 5 (.slice a9 [d].length c9) [d].length (cellsD9 [d]) := HO9.out
      repeat clear HB
      repeat clear HK
      have HB := HB9
      have HK := HK9
      clear HB9 HK9 b0 b1 b2 b3 b4 b5 b6
      go_loopw [3, 4, 5] (fun v3 v4 v5 wr => ∃ (i c : Nat) (aa : Option Addr) (ca : Nat) (LA : List D), v3 = .int .i64 (c : Int) ∧ v4 = .slice aa LA.length ca ∧ LA.length ≤ 1000 ∧ Hid (LA = [d] ++ atomsSL (l.take i)) ∧ v5 = .int .i64 (i : Int) ∧ i ≤ l.length ∧ c ≤ 600 ∧ Hid (c = 1 + counts (l.take i)) ∧ Hid (wr.ownsRow (w.heap.size + 1) 26 5 (.slice aa LA.length ca) LA.length (cellsD9 LA)) ∧ Hid (Box wr w.heap.size 29 (richA k d (.slice ao l.length cp))) ∧ Hid (Kept (fun _ => False) w wr)) (fun _ _ v5 _ => l.length - (intOf v5).toNat)
      case atStart => exact ⟨0, 1, _, _, [d], rfl, rfl, by simp, Lib.hid (by rw [List.take_zero, atomsSL, List.append_nil]), rfl, Nat.zero_le _, by omega, Lib.hid (by rw [List.take_zero, counts]), Lib.hid HO0, HB, HK⟩
      case round =>
        repeat clear HB
        repeat clear HK
        obtain ⟨i, c, aa, ca, LA, rfl, rfl, hla, HLA, rfl, hil, hc6, HCI, HO, HB, HK⟩ := hrel
        rename World => wr
        have b6 : wr.cell? ⟨w.heap.size, 6, none⟩ = some (.slice ao l.length cp) := HB.out.cell 6
        have b0 := HB.out.cell 0
        have b1 := HB.out.cell 1
        have b2 := HB.out.cell 2
        have b3 := HB.out.cell 3
        have b4 := HB.out.cell 4
        have b5 := HB.out.cell 5
        have hws := HK.out.size
        by_cases hlt : i < l.length
        · obtain ⟨x, hx⟩ : ∃ x, l[i]? = some x := ⟨_, List.getElem?_eq_getElem hlt⟩
          obtain ⟨b, off, ao', cp', rfl, hb, hrx, d0, d1, d2, d3, d4, d5, d6⟩ := (ArgS.kept HK.out _ 0 l HA.out).part hx
          have hct := counts_take hx
          have hcl := counts_take_le l (i + 1)
          have hcp := count_pos x
          have HN := Lib.hid (show c + count x = 1 + counts (l.take (i + 1)) by rw [hct, HCI.out]; omega)
          have hcn : c + count x ≤ 600 := by have := HN.out; have := HCL.out; omega
          have HAT := Lib.hid (atomsSL_take hx)
          have HXL := Lib.hid (atomsS_len x)
          have hxc : (atomsS x).length ≤ 600 := by have := HXL.out; omega
          have PC := count9_walk x _ wr hrx (by omega)
          have AC := fun (W : World) (hW : Kept (fun _ => False) wr W) => atoms9_walk x _ W (RichS.kept hW _ _ hrx) (by omega) (fitsL_mem HFL.out (List.mem_of_getElem? hx))
          have HAC := Lib.hid AC
          have hi0 : (0 : Int) ≤ (i : Int) := by omega
          have hiI : (i : Int) < (l.length : Int) := by omega
          have hcI : (c : Int) + (count x : Int) ≤ 600 := by omega
          have hlI : (l.length : Int) ≤ 600 := by have := counts_len l; have := HCL.out; omega
          have hc0 : (0 : Int) ≤ (c : Int) := by omega
          have hcx0 : (0 : Int) ≤ (count x : Int) := by omega
          have HX := Lib.hid hx
          have HCP := Lib.hid hcp
          have HCX0 : ∀ y, y = x → count y ≤ 40000 := fun y hy => by rw [hy]; omega
          have HCX1 := Lib.hid HCX0
          clear HCX0
          obtain ⟨cx, hcx⟩ : ∃ cx, cx = count x := ⟨_, rfl⟩
          rw [← hcx] at PC HN hcn hcI hcx0
          clear hcx
          clear hrx hct hcl hcp AC hx
          go_wp2_with fail
          refine PC.mono ?_
          rintro e w4 ⟨rfl, hk4⟩
          have DD := HK.out.trans hk4 (fun _ _ h => h)
          obtain ⟨b', off', ao2, cp2, hae, hb', hrx', d0, d1, d2, d3, d4, d5, d6⟩ := (ArgS.kept DD _ 0 l HA.out).part HX.out
          obtain ⟨rfl, rfl⟩ : b' = b ∧ off' = off := by injection hae with hae; injection hae with h1 h2; exact ⟨h1.symm, h2.symm⟩
          have HO4 := Lib.hid (hk4.owns HO.out (fun _ _ h => h))
          have HB4 := Lib.hid (hk4.box HB.out (fun h => h))
          have AC := atoms9_walk x _ w4 hrx' (HCX1.out x rfl) (fitsL_mem HFL.out (List.mem_of_getElem? HX.out))
          obtain ⟨LX, hLX⟩ : ∃ LX, LX = atomsS x := ⟨_, rfl⟩
          rw [← hLX] at AC hxc
          have HLX := Lib.hid hLX
          clear hLX
          have b6 : w4.cell? ⟨w.heap.size, 6, none⟩ = some (.slice _ l.length cp) := HB4.out.cell 6
          have HK4 := Lib.hid DD
          clear hae hb' hrx' PC DD
          go_wp2_with fail
          refine AC.mono ?_
          rintro e w5 ⟨⟨v5, rfl, ho5⟩, hk5⟩
          obtain ⟨a5, c5, rfl⟩ := own_form ho5
          have hd5 := deps_src (own_deps9 ho5)
          have HO5 := Lib.hid (hk5.owns HO4.out (fun _ _ h => h))
          have HB5 := Lib.hid (hk5.box HB4.out (fun h => h))
          have HK5 := Lib.hid (HK4.out.trans hk5 (fun _ _ h => h))
          have hw5 := HB5.out.lt
          have HLN := Lib.hid (show LA ++ LX = [d] ++ atomsSL (l.take (i + 1)) by rw [HLA.out, HLX.out, HAT.out]; simp)
          have hle : (LA ++ LX).length ≤ 1000 := by
            rw [HLN.out, List.length_append]
            have h2 : (atomsSL (l.take (i + 1))).length ≤ counts (l.take (i + 1)) := atomsSL_le _
            have h3 := counts_take_le l (i + 1)
            have h4 := HCL.out
            have h5 : ([d] : List D).length ≤ 1 := by simp
            omega
          clear ho5 hk5 AC
          go_wp2_with (first
            | (at_builtin; (refine wpList_append_src rfl _ _ 39 rfl (w.heap.size + 1) 26 i0 (.agg #[.string ⟨#[]⟩, .int .u8 0, .int .i64 0, .string ⟨#[]⟩, .string ⟨#[]⟩]) 5 64 Tryd.underlying39 hi hz0 hz1 hz2 rfl (by decide) (.slice aa LA.length ca) _ _ rfl HO5.out a5 LX.length c5 (cellsD9 LX) rfl hd5.1 (cellsD9_len _) hd5.2.2 (cellsD9_one _) (by show _ ≤ 9223372036854775807; omega) (by omega) (by omega) ?_; intro v9 w9 hown9 hgrow9 hblk9; rw [← cellsD9_app] at hown9; obtain ⟨a9, c9, e9⟩ := own_form hown9; subst e9; have HO9 := Lib.hid hown9; have HK9 := Lib.hid (HK5.out.grown hgrow9 (fun j hj => .inr (by have := (HO5.out.lt j hj).1; omega))); have HB9 := Lib.hid ((Kept.grown (Kept.refl (fun b => w.heap.size + 1 ≤ b) w5) hgrow9 (fun j hj => .inl (HO5.out.lt j hj).1)).box HB5.out (by omega)); clear hown9 hgrow9 hblk9))
            | fail)
          go_roundw
          case rel => first | exact ⟨i + 1, c + cx, a9, c9, LA ++ LX, by go_num, (by rw [List.length_append]), hle, HLN, by go_num, by omega, hcn, HN, (by rw [List.length_append]; exact HO9), HB9, HK9⟩ | ((repeat apply Exists.intro); refine ⟨?_, rfl⟩; exact ⟨i + 1, c + cx, a9, c9, LA ++ LX, by go_num, (by rw [List.length_append]), hle, HLN, by go_num, by omega, hcn, HN, (by rw [List.length_append]; exact HO9), HB9, HK9⟩)
          case measure => first | (simp [intOf]; done) | (simp [intOf]; omega)
        · obtain rfl : i = l.length := by omega
          have hge : ¬ (l.length : Int) < (l.length : Int) := by omega
          have HE := Lib.hid (show [d] ++ atomsSL (l.take l.length) = atomsS (.mk k d l) by rw [List.take_length, atomsS, HA0.out])
          have HCC := Lib.hid (show c = count (.mk k d l) by rw [HCI.out, List.take_length, count])
          obtain rfl : LA = atomsS (.mk k d l) := HLA.out.trans HE.out
          obtain rfl : c = count (.mk k d l) := HCC.out
          clear hlt hil HCC
          have HO1 := Lib.hid (own_deps9 HO)
          have hla2 : (atomsS (.mk k d l)).length ≤ 1000 := hla
          generalize hAA : atomsS (.mk k d l) = AA at *
          obtain ⟨m, hm⟩ : ∃ z, z = mayS (.mk k d l) 1 := ⟨_, rfl⟩
          have HM := Lib.hid hm
          have HDC := Lib.hid (show m = 0 → deep (.mk k d l) < count (.mk k d l) ∧ 0 < AA.length from fun h => by rw [← hAA]; exact fits_deep _ _ (mayS_ok.1 (hm.symm.trans h)).2.2.2)
          have HAA := Lib.hid hAA
          have PC := count9_walk (.mk k d l) _ wr (RichS.kept HK.out _ _ HR.out) (by have := HCT.out; omega)
          obtain ⟨cc, hcc⟩ : ∃ z, z = count (.mk k d l) := ⟨_, rfl⟩
          rw [← hcc] at PC HDC HAL ⊢
          have HCN := Lib.hid hcc
          have hcc6 : (cc : Int) < 600 := by have := HCT.out; omega
          have hcc0 : (0 : Int) ≤ (cc : Int) := by omega
          have hal : (AA.length : Int) ≤ (cc : Int) := by have := HAL.out; omega
          have hal0 : (0 : Int) ≤ (AA.length : Int) := by omega
          clear hcc hm hAA
          go_wp2_with fail
          refine (PC).mono ?_
          rintro e w10 ⟨rfl, hk10⟩
          have HB := Lib.hid (hk10.box HB.out (fun h => h)); have HK := Lib.hid (HK.out.trans hk10 (fun _ _ h => h))
          clear b0 b1 b2 b3 b4 b5 b6
          have b0 := HB.out.cell 0
          have b1 := HB.out.cell 1
          have b2 := HB.out.cell 2
          have b3 := HB.out.cell 3
          have b4 := HB.out.cell 4
          have b5 := HB.out.cell 5
          have b6 := HB.out.cell 6
          have HO2 := Lib.hid (HO1.out.kept hk10)
          have AC := atoms9_walk (.mk k d l) _ w10 (RichS.kept HK.out _ _ HR.out) (by have := HCT.out; omega) HFX.out
          rw [HAA.out] at AC
          clear PC hk10
          go_wp2_with fail
          refine (AC).mono ?_
          rintro e w11 ⟨⟨v11, rfl, ho11⟩, hk11⟩
          have HB := Lib.hid (hk11.box HB.out (fun h => h)); have HK := Lib.hid (HK.out.trans hk11 (fun _ _ h => h))
          clear b0 b1 b2 b3 b4 b5 b6
          have b0 := HB.out.cell 0
          have b1 := HB.out.cell 1
          have b2 := HB.out.cell 2
          have b3 := HB.out.cell 3
          have b4 := HB.out.cell 4
          have b5 := HB.out.cell 5
          have b6 := HB.out.cell 6
          have HO3 := Lib.hid (HO2.out.kept hk11)
          have DC := depsR9_walk AA AA _ _ w11 (by omega) (own_deps9 ho11) HO3.out
          rw [sameDs_iff.2 rfl] at DC
          clear AC hk11 ho11
          go_wp2_with fail
          refine (DC).mono ?_
          rintro e w12 ⟨rfl, hk12⟩
          have HB := Lib.hid (hk12.box HB.out (fun h => h)); have HK := Lib.hid (HK.out.trans hk12 (fun _ _ h => h))
          clear b0 b1 b2 b3 b4 b5 b6
          have b0 := HB.out.cell 0
          have b1 := HB.out.cell 1
          have b2 := HB.out.cell 2
          have b3 := HB.out.cell 3
          have b4 := HB.out.cell 4
          have b5 := HB.out.cell 5
          have b6 := HB.out.cell 6
          clear DC hk12
          have MC := may9_walk (.mk k d l) _ 1 w12 (RichS.kept HK.out _ _ HR.out) (by have := HCT.out; omega) (HTB.out.kept HK.out) (HMB.out.on HK.out)
          rw [← HM.out] at MC
          go_wp2_with fail
          refine (MC).mono ?_
          rintro e w13 ⟨rfl, hk13⟩
          have HB := Lib.hid (hk13.box HB.out (fun h => h)); have HK := Lib.hid (HK.out.trans hk13 (fun _ _ h => h))
          clear b0 b1 b2 b3 b4 b5 b6
          have b0 := HB.out.cell 0
          have b1 := HB.out.cell 1
          have b2 := HB.out.cell 2
          have b3 := HB.out.cell 3
          have b4 := HB.out.cell 4
          have b5 := HB.out.cell 5
          have b6 := HB.out.cell 6
          clear MC hk13
          by_cases hm0 : m = 0
          · have hmb : (m != 0) = false := by simp [hm0]
            obtain ⟨g1, g2⟩ := HDC.out hm0
            have g1I : (deep (.mk k d l) : Int) < (cc : Int) := by omega
            have g2I : (0 : Int) < (AA.length : Int) := by omega
            have DC := depth9_walk (.mk k d l) _ w13 (RichS.kept HK.out _ _ HR.out) (by have := HCT.out; omega)
            clear hm0 g1 g2
            go_wp2_with fail
            refine (DC).mono ?_
            rintro e w14 ⟨rfl, hk14⟩
            have HB := Lib.hid (hk14.box HB.out (fun h => h)); have HK := Lib.hid (HK.out.trans hk14 (fun _ _ h => h))
            clear b0 b1 b2 b3 b4 b5 b6
            have b0 := HB.out.cell 0
            have b1 := HB.out.cell 1
            have b2 := HB.out.cell 2
            have b3 := HB.out.cell 3
            have b4 := HB.out.cell 4
            have b5 := HB.out.cell 5
            have b6 := HB.out.cell 6
            go_wp2_with fail
            go_ret
            exact ⟨(show Ending.returned (.bool (decide (0 < AA.length))) = _ by rw [decide_eq_true (by omega)]), HK.out⟩
          · have hmb : (m != 0) = true := by simp [hm0]
            clear hm0
            go_wp2_with fail
            go_ret
            exact ⟨rfl, HK.out⟩
    · have hkb : ((k : Int) == 1) = false := by simp; omega
      have HA0 := Lib.hid (show (if k = 1 then [d] else []) = ([] : List D) by rw [if_neg hk1])
      have HO0 := World.ownsRow_nil w2 (w.heap.size + 1) 26 5
      clear hk1
      go_wp2_with fail
      go_loopw [3, 4, 5] (fun v3 v4 v5 wr => ∃ (i c : Nat) (aa : Option Addr) (ca : Nat) (LA : List D), v3 = .int .i64 (c : Int) ∧ v4 = .slice aa LA.length ca ∧ LA.length ≤ 1000 ∧ Hid (LA = ([] : List D) ++ atomsSL (l.take i)) ∧ v5 = .int .i64 (i : Int) ∧ i ≤ l.length ∧ c ≤ 600 ∧ Hid (c = 1 + counts (l.take i)) ∧ Hid (wr.ownsRow (w.heap.size + 1) 26 5 (.slice aa LA.length ca) LA.length (cellsD9 LA)) ∧ Hid (Box wr w.heap.size 29 (richA k d (.slice ao l.length cp))) ∧ Hid (Kept (fun _ => False) w wr)) (fun _ _ v5 _ => l.length - (intOf v5).toNat)
      case atStart => exact ⟨0, 1, _, _, ([] : List D), rfl, rfl, by simp, Lib.hid (by rw [List.take_zero, atomsSL, List.append_nil]), rfl, Nat.zero_le _, by omega, Lib.hid (by rw [List.take_zero, counts]), Lib.hid HO0, HB, HK⟩
      case round =>
        repeat clear HB
        repeat clear HK
        obtain ⟨i, c, aa, ca, LA, rfl, rfl, hla, HLA, rfl, hil, hc6, HCI, HO, HB, HK⟩ := hrel
        rename World => wr
        have b6 : wr.cell? ⟨w.heap.size, 6, none⟩ = some (.slice ao l.length cp) := HB.out.cell 6
        have b0 := HB.out.cell 0
        have b1 := HB.out.cell 1
        have b2 := HB.out.cell 2
        have b3 := HB.out.cell 3
        have b4 := HB.out.cell 4
        have b5 := HB.out.cell 5
        have hws := HK.out.size
        by_cases hlt : i < l.length
        · obtain ⟨x, hx⟩ : ∃ x, l[i]? = some x := ⟨_, List.getElem?_eq_getElem hlt⟩
          obtain ⟨b, off, ao', cp', rfl, hb, hrx, d0, d1, d2, d3, d4, d5, d6⟩ := (ArgS.kept HK.out _ 0 l HA.out).part hx
          have hct := counts_take hx
          have hcl := counts_take_le l (i + 1)
          have hcp := count_pos x
          have HN := Lib.hid (show c + count x = 1 + counts (l.take (i + 1)) by rw [hct, HCI.out]; omega)
          have hcn : c + count x ≤ 600 := by have := HN.out; have := HCL.out; omega
          have HAT := Lib.hid (atomsSL_take hx)
          have HXL := Lib.hid (atomsS_len x)
          have hxc : (atomsS x).length ≤ 600 := by have := HXL.out; omega
          have PC := count9_walk x _ wr hrx (by omega)
          have AC := fun (W : World) (hW : Kept (fun _ => False) wr W) => atoms9_walk x _ W (RichS.kept hW _ _ hrx) (by omega) (fitsL_mem HFL.out (List.mem_of_getElem? hx))
          have HAC := Lib.hid AC
          have hi0 : (0 : Int) ≤ (i : Int) := by omega
          have hiI : (i : Int) < (l.length : Int) := by omega
          have hcI : (c : Int) + (count x : Int) ≤ 600 := by omega
          have hlI : (l.length : Int) ≤ 600 := by have := counts_len l; have := HCL.out; omega
          have hc0 : (0 : Int) ≤ (c : Int) := by omega
          have hcx0 : (0 : Int) ≤ (count x : Int) := by omega
          have HX := Lib.hid hx
          have HCP := Lib.hid hcp
          have HCX0 : ∀ y, y = x → count y ≤ 40000 := fun y hy => by rw [hy]; omega
          have HCX1 := Lib.hid HCX0
          clear HCX0
          obtain ⟨cx, hcx⟩ : ∃ cx, cx = count x := ⟨_, rfl⟩
          rw [← hcx] at PC HN hcn hcI hcx0
          clear hcx
          clear hrx hct hcl hcp AC hx
          go_wp2_with fail
          refine PC.mono ?_
          rintro e w4 ⟨rfl, hk4⟩
          have DD := HK.out.trans hk4 (fun _ _ h => h)
          obtain ⟨b', off', ao2, cp2, hae, hb', hrx', d0, d1, d2, d3, d4, d5, d6⟩ := (ArgS.kept DD _ 0 l HA.out).part HX.out
          obtain ⟨rfl, rfl⟩ : b' = b ∧ off' = off := by injection hae with hae; injection hae with h1 h2; exact ⟨h1.symm, h2.symm⟩
          have HO4 := Lib.hid (hk4.owns HO.out (fun _ _ h => h))
          have HB4 := Lib.hid (hk4.box HB.out (fun h => h))
          have AC := atoms9_walk x _ w4 hrx' (HCX1.out x rfl) (fitsL_mem HFL.out (List.mem_of_getElem? HX.out))
          obtain ⟨LX, hLX⟩ : ∃ LX, LX = atomsS x := ⟨_, rfl⟩
          rw [← hLX] at AC hxc
          have HLX := Lib.hid hLX
          clear hLX
          have b6 : w4.cell? ⟨w.heap.size, 6, none⟩ = some (.slice _ l.length cp) := HB4.out.cell 6
          have HK4 := Lib.hid DD
          clear hae hb' hrx' PC DD
          go_wp2_with fail
          refine AC.mono ?_
          rintro e w5 ⟨⟨v5, rfl, ho5⟩, hk5⟩
          obtain ⟨a5, c5, rfl⟩ := own_form ho5
          have hd5 := deps_src (own_deps9 ho5)
          have HO5 := Lib.hid (hk5.owns HO4.out (fun _ _ h => h))
          have HB5 := Lib.hid (hk5.box HB4.out (fun h => h))
          have HK5 := Lib.hid (HK4.out.trans hk5 (fun _ _ h => h))
          have hw5 := HB5.out.lt
          have HLN := Lib.hid (show LA ++ LX = ([] : List D) ++ atomsSL (l.take (i + 1)) by rw [HLA.out, HLX.out, HAT.out]; simp)
          have hle : (LA ++ LX).length ≤ 1000 := by
            rw [HLN.out, List.length_append]
            have h2 : (atomsSL (l.take (i + 1))).length ≤ counts (l.take (i + 1)) := atomsSL_le _
            have h3 := counts_take_le l (i + 1)
            have h4 := HCL.out
            have h5 : (([] : List D) : List D).length ≤ 1 := by simp
            omega
          clear ho5 hk5 AC
          go_wp2_with (first
            | (at_builtin; (refine wpList_append_src rfl _ _ 39 rfl (w.heap.size + 1) 26 i0 (.agg #[.string ⟨#[]⟩, .int .u8 0, .int .i64 0, .string ⟨#[]⟩, .string ⟨#[]⟩]) 5 64 Tryd.underlying39 hi hz0 hz1 hz2 rfl (by decide) (.slice aa LA.length ca) _ _ rfl HO5.out a5 LX.length c5 (cellsD9 LX) rfl hd5.1 (cellsD9_len _) hd5.2.2 (cellsD9_one _) (by show _ ≤ 9223372036854775807; omega) (by omega) (by omega) ?_; intro v9 w9 hown9 hgrow9 hblk9; rw [← cellsD9_app] at hown9; obtain ⟨a9, c9, e9⟩ := own_form hown9; subst e9; have HO9 := Lib.hid hown9; have HK9 := Lib.hid (HK5.out.grown hgrow9 (fun j hj => .inr (by have := (HO5.out.lt j hj).1; omega))); have HB9 := Lib.hid ((Kept.grown (Kept.refl (fun b => w.heap.size + 1 ≤ b) w5) hgrow9 (fun j hj => .inl (HO5.out.lt j hj).1)).box HB5.out (by omega)); clear hown9 hgrow9 hblk9))
            | fail)
          go_roundw
          case rel => first | exact ⟨i + 1, c + cx, a9, c9, LA ++ LX, by go_num, (by rw [List.length_append]), hle, HLN, by go_num, by omega, hcn, HN, (by rw [List.length_append]; exact HO9), HB9, HK9⟩ | ((repeat apply Exists.intro); refine ⟨?_, rfl⟩; exact ⟨i + 1, c + cx, a9, c9, LA ++ LX, by go_num, (by rw [List.length_append]), hle, HLN, by go_num, by omega, hcn, HN, (by rw [List.length_append]; exact HO9), HB9, HK9⟩)
          case measure => first | (simp [intOf]; done) | (simp [intOf]; omega)
        · obtain rfl : i = l.length := by omega
          have hge : ¬ (l.length : Int) < (l.length : Int) := by omega
          have HE := Lib.hid (show ([] : List D) ++ atomsSL (l.take l.length) = atomsS (.mk k d l) by rw [List.take_length, atomsS, HA0.out])
          have HCC := Lib.hid (show c = count (.mk k d l) by rw [HCI.out, List.take_length, count])
          obtain rfl : LA = atomsS (.mk k d l) := HLA.out.trans HE.out
          obtain rfl : c = count (.mk k d l) := HCC.out
          clear hlt hil HCC
          have HO1 := Lib.hid (own_deps9 HO)
          have hla2 : (atomsS (.mk k d l)).length ≤ 1000 := hla
          generalize hAA : atomsS (.mk k d l) = AA at *
          obtain ⟨m, hm⟩ : ∃ z, z = mayS (.mk k d l) 1 := ⟨_, rfl⟩
          have HM := Lib.hid hm
          have HDC := Lib.hid (show m = 0 → deep (.mk k d l) < count (.mk k d l) ∧ 0 < AA.length from fun h => by rw [← hAA]; exact fits_deep _ _ (mayS_ok.1 (hm.symm.trans h)).2.2.2)
          have HAA := Lib.hid hAA
          have PC := count9_walk (.mk k d l) _ wr (RichS.kept HK.out _ _ HR.out) (by have := HCT.out; omega)
          obtain ⟨cc, hcc⟩ : ∃ z, z = count (.mk k d l) := ⟨_, rfl⟩
          rw [← hcc] at PC HDC HAL ⊢
          have HCN := Lib.hid hcc
          have hcc6 : (cc : Int) < 600 := by have := HCT.out; omega
          have hcc0 : (0 : Int) ≤ (cc : Int) := by omega
          have hal : (AA.length : Int) ≤ (cc : Int) := by have := HAL.out; omega
          have hal0 : (0 : Int) ≤ (AA.length : Int) := by omega
          clear hcc hm hAA
          go_wp2_with fail
          refine (PC).mono ?_
          rintro e w10 ⟨rfl, hk10⟩
          have HB := Lib.hid (hk10.box HB.out (fun h => h)); have HK := Lib.hid (HK.out.trans hk10 (fun _ _ h => h))
          clear b0 b1 b2 b3 b4 b5 b6
          have b0 := HB.out.cell 0
          have b1 := HB.out.cell 1
          have b2 := HB.out.cell 2
          have b3 := HB.out.cell 3
          have b4 := HB.out.cell 4
          have b5 := HB.out.cell 5
          have b6 := HB.out.cell 6
          have HO2 := Lib.hid (HO1.out.kept hk10)
          have AC := atoms9_walk (.mk k d l) _ w10 (RichS.kept HK.out _ _ HR.out) (by have := HCT.out; omega) HFX.out
          rw [HAA.out] at AC
          clear PC hk10
          go_wp2_with fail
          refine (AC).mono ?_
          rintro e w11 ⟨⟨v11, rfl, ho11⟩, hk11⟩
          have HB := Lib.hid (hk11.box HB.out (fun h => h)); have HK := Lib.hid (HK.out.trans hk11 (fun _ _ h => h))
          clear b0 b1 b2 b3 b4 b5 b6
          have b0 := HB.out.cell 0
          have b1 := HB.out.cell 1
          have b2 := HB.out.cell 2
          have b3 := HB.out.cell 3
          have b4 := HB.out.cell 4
          have b5 := HB.out.cell 5
          have b6 := HB.out.cell 6
          have HO3 := Lib.hid (HO2.out.kept hk11)
          have DC := depsR9_walk AA AA _ _ w11 (by omega) (own_deps9 ho11) HO3.out
          rw [sameDs_iff.2 rfl] at DC
          clear AC hk11 ho11
          go_wp2_with fail
          refine (DC).mono ?_
          rintro e w12 ⟨rfl, hk12⟩
          have HB := Lib.hid (hk12.box HB.out (fun h => h)); have HK := Lib.hid (HK.out.trans hk12 (fun _ _ h => h))
          clear b0 b1 b2 b3 b4 b5 b6
          have b0 := HB.out.cell 0
          have b1 := HB.out.cell 1
          have b2 := HB.out.cell 2
          have b3 := HB.out.cell 3
          have b4 := HB.out.cell 4
          have b5 := HB.out.cell 5
          have b6 := HB.out.cell 6
          clear DC hk12
          have MC := may9_walk (.mk k d l) _ 1 w12 (RichS.kept HK.out _ _ HR.out) (by have := HCT.out; omega) (HTB.out.kept HK.out) (HMB.out.on HK.out)
          rw [← HM.out] at MC
          go_wp2_with fail
          refine (MC).mono ?_
          rintro e w13 ⟨rfl, hk13⟩
          have HB := Lib.hid (hk13.box HB.out (fun h => h)); have HK := Lib.hid (HK.out.trans hk13 (fun _ _ h => h))
          clear b0 b1 b2 b3 b4 b5 b6
          have b0 := HB.out.cell 0
          have b1 := HB.out.cell 1
          have b2 := HB.out.cell 2
          have b3 := HB.out.cell 3
          have b4 := HB.out.cell 4
          have b5 := HB.out.cell 5
          have b6 := HB.out.cell 6
          clear MC hk13
          by_cases hm0 : m = 0
          · have hmb : (m != 0) = false := by simp [hm0]
            obtain ⟨g1, g2⟩ := HDC.out hm0
            have g1I : (deep (.mk k d l) : Int) < (cc : Int) := by omega
            have g2I : (0 : Int) < (AA.length : Int) := by omega
            have DC := depth9_walk (.mk k d l) _ w13 (RichS.kept HK.out _ _ HR.out) (by have := HCT.out; omega)
            clear hm0 g1 g2
            go_wp2_with fail
            refine (DC).mono ?_
            rintro e w14 ⟨rfl, hk14⟩
            have HB := Lib.hid (hk14.box HB.out (fun h => h)); have HK := Lib.hid (HK.out.trans hk14 (fun _ _ h => h))
            clear b0 b1 b2 b3 b4 b5 b6
            have b0 := HB.out.cell 0
            have b1 := HB.out.cell 1
            have b2 := HB.out.cell 2
            have b3 := HB.out.cell 3
            have b4 := HB.out.cell 4
            have b5 := HB.out.cell 5
            have b6 := HB.out.cell 6
            go_wp2_with fail
            go_ret
            exact ⟨(show Ending.returned (.bool (decide (0 < AA.length))) = _ by rw [decide_eq_true (by omega)]), HK.out⟩
          · have hmb : (m != 0) = true := by simp [hm0]
            clear hm0
            go_wp2_with fail
            go_ret
            exact ⟨rfl, HK.out⟩
end Go.Proofs.YtndakcognjaeoaaDoor

namespace Go.Proofs.YtndakcognjaeoaaDoor
open Go.RowKit Rich

/-- What a slot of a region holds. -/
inductive KdT where
  | rich (x : R)
  | deps (l : List Dep.D)
  | lit (v : Value)
def KdTS : KdT → World → Value → Prop
  | .rich x, w, v => RichS w x v
  | .deps l, w, v => DepsS w v l
  | .lit u, _, v => v = u
theorem KdTS.kept : ∀ (k : KdT) {w w' : World} {v : Value}, Kept (fun _ => False) w w' → KdTS k w v → KdTS k w' v
  | .rich x, _, _, _, hk, h => RichS.kept hk x _ h
  | .deps _, _, _, _, hk, h => DepsS.kept h hk
  | .lit _, _, _, _, _, h => h
def ST (tbl : List KdT) (j : Nat) (w : World) (v : Value) : Prop := match tbl[j]? with
  | some k => KdTS k w v
  | none => True
theorem ST.kept (tbl : List KdT) (j : Nat) (w w' : World) (v : Value) (hk : Kept (fun _ => False) w w') (h : ST tbl j w v) : ST tbl j w' v := by
  unfold ST at h ⊢
  cases hj : tbl[j]? with
  | none => trivial
  | some k => rw [hj] at h; exact KdTS.kept k hk h
theorem ST.mkLit {tbl : List KdT} {j : Nat} {w : World} {u : Value} (h : tbl[j]? = some (.lit u)) : ST tbl j w u := by unfold ST; rw [h]; rfl
theorem ST.mkRich {tbl : List KdT} {j : Nat} {w : World} {v : Value} {x : R} (h : tbl[j]? = some (.rich x)) (hr : RichS w x v) : ST tbl j w v := by unfold ST; rw [h]; exact hr
theorem ST.mkSl {tbl : List KdT} {j : Nat} {w : World} {v : Value} {l : List Dep.D} (h : tbl[j]? = some (.deps l)) (hr : DepsS w v l) : ST tbl j w v := by unfold ST; rw [h]; exact hr
theorem ST.lit {tbl : List KdT} {j : Nat} {w : World} {v u : Value} (h : tbl[j]? = some (.lit u)) (hs : ST tbl j w v) : v = u := by unfold ST at hs; rw [h] at hs; exact hs
theorem ST.rich {tbl : List KdT} {j : Nat} {w : World} {v : Value} {x : R} (h : tbl[j]? = some (.rich x)) (hs : ST tbl j w v) : RichS w x v := by unfold ST at hs; rw [h] at hs; exact hs
theorem ST.sl {tbl : List KdT} {j : Nat} {w : World} {v : Value} {l : List Dep.D} (h : tbl[j]? = some (.deps l)) (hs : ST tbl j w v) : DepsS w v l := by unfold ST at hs; rw [h] at hs; exact hs
end Go.Proofs.YtndakcognjaeoaaDoor
