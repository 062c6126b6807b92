/-
  The walks over the document's words, and Words (layer 8). The walk over the document's Same (layer 8). Conditions: as each theorem states.
-/
import Derived.Test.YtoebokgpdkklmaaGreatDoorK07
import Derived.Maps.AppendAt
import Derived.Test.YtoebokgpdkklmaaGreatDoorK05
import Derived.Test.YtoebokgpdkklmaaGreatDoorRows
import Derived.Handy
import Derived.Lib.Hide
import Derived.LoopN
import Derived.Deep.QuietTactic
import Derived.WalkKit
import Derived.Deep.RegionWith
import Derived.BigRegion
namespace Go.Proofs.YtoebokgpdkklmaaGreatDoor
open Go.RowKit Rich
open Dep (wordsD)

abbrev bytesV (l : List (List UInt8)) : List ByteArray := l.map fun x => ⟨x.toArray⟩
/-- What the document's Words (layer 6) answers, in worlds that keep what w0 has. -/
def WordsD8 (w0 : World) : Prop := ∀ (d : Dep.D) (w : World), Dep.mayD d = true → d.op < 256 → Kept (fun _ => False) w0 w →
  Calls Tryz.prog 32 #[.agg #[.string ⟨d.name.toArray⟩, .int .u8 (d.op : Int), .int .i64 d.evr.epoch, .string ⟨d.evr.ver.toArray⟩, .string ⟨d.evr.rel.toArray⟩]] w fun e w' => (∃ v, e = .returned (.tuple #[v, .int .i64 0]) ∧ StrS w' v (bytesV (Dep.wordsD d))) ∧ Kept (fun _ => False) w w'
theorem own_one8 {w : World} {B g : Nat} {e : TypeId} {x : Value} (hB : B ≤ g) (hb : Box w g e #[x]) : w.ownsRow B e 1 (.slice (some ⟨g, 0, none⟩) 1 1) 1 [x] :=
  ⟨rfl, .inr ⟨g, 1, #[x], rfl, hB, hb, Nat.le_refl _, by unfold maxLen; omega, rfl, rfl⟩⟩
theorem one_new8 (W : World) (t : TypeId) (s : ByteArray) : ∀ (j : Nat) u, (cellsS [s])[j]? = some u → (W.alloc (.cells #[.string s] t)).cell? ((⟨W.heap.size, 0, none⟩ : Addr).add j) = some u := by
  intro j u hj
  match j, hj with
  | 0, hj => simp [cellsS] at hj; subst hj; simp [Addr.add]
  | j + 1, hj => simp [cellsS] at hj
theorem box_grown8 {w w1 : World} {g base n size : Nat} {e t : TypeId} {v : Value} {xs : List Value} {cs : Array Value} (hb : Box w g t cs) (ho : w.ownsRow base e size v n xs) (hg : w.grownBy w1 v.ownBlock) (hlt : g < base) : Box w1 g t cs :=
  (hg.block g hb.lt (fun e => by have := (ho.lt g e.symm).1; omega)).trans hb
mutual
theorem wordsR_len : ∀ x : R, Rich.part x = true → (wordsR x).length + 1 ≤ 4 * count x
  | .mk k d l, h => by
    rw [count]
    by_cases hk : k = 1
    · subst hk
      rw [wordsR, if_pos rfl]
      by_cases h0 : d.op = 0
      · rw [wordsD_any h0]; simp; omega
      · rw [wordsD_op h0]; simp; omega
    · rw [Rich.part, if_neg hk, Bool.and_eq_true, Bool.and_eq_true] at h
      have := wordsL_len l h.1.2 k 0
      rw [wordsR, if_neg hk]
      simp only [List.length_cons, List.length_append, List.length_nil]
      omega
theorem wordsL_len : ∀ l : List R, allP l = true → ∀ k i, (wordsL k i l).length ≤ 4 * counts l
  | [], _, k, i => by rw [wordsL, counts]; simp
  | x :: l, h, k, i => by
    rw [allP, Bool.and_eq_true] at h
    have h1 := wordsR_len x h.1
    have h2 := wordsL_len l h.2 k (i + 1)
    have h3 : (sepL k i).length ≤ 1 := by unfold sepL; split <;> simp
    rw [wordsL, counts]
    simp only [List.length_append]
    omega
end
theorem wordsL_take (k : Nat) : ∀ (l : List R) (i0 i : Nat) (x : R), l[i]? = some x → wordsL k i0 (l.take (i + 1)) = wordsL k i0 (l.take i) ++ (sepL k (i0 + i) ++ wordsR x)
  | [], _, _, _, h => by simp at h
  | y :: l, i0, 0, x, h => by
    simp at h
    subst h
    rw [List.take_succ_cons, List.take_zero, List.take_zero, wordsL, wordsL, wordsL]
    simp
  | y :: l, i0, i + 1, x, h => by
    rw [List.take_succ_cons, List.take_succ_cons, wordsL, wordsL, wordsL_take k l (i0 + 1) i x (by simpa using h), show i0 + 1 + i = i0 + (i + 1) by omega]
    simp
theorem allP_at {l : List R} (h : allP l = true) {x : R} (hx : x ∈ l) : Rich.part x = true := by
  cases hp : Rich.part x with
  | true => rfl
  | false =>
    obtain ⟨i, hi, he⟩ := List.getElem_of_mem hx
    rw [allP_take_no (i := i) (by rw [List.getElem?_eq_getElem hi, he]) hp] at h
    cases h
theorem cells_at8 {w : World} {ad : Addr} {X : List ByteArray} (h : ∀ (j : Nat) (u : ByteArray), X[j]? = some u → ∃ a : Addr, some ad = some a ∧ w.cell? (a.add j) = some (.string u) ∧ a.block < w.heap.size) : ∀ (j : Nat) u, (cellsS X)[j]? = some u → w.cell? (ad.add j) = some u := by
  intro j u hj
  simp only [cellsS, List.getElem?_map, Option.map_eq_some_iff] at hj
  obtain ⟨y, hy, rfl⟩ := hj
  obtain ⟨a, e, h1, _⟩ := h j y hy
  injection e with e
  subst e
  exact h1
theorem words_some (x : R) : wordsR x ≠ [] := by
  obtain ⟨k, d, l⟩ := x
  rw [wordsR]
  split
  · exact Dep.words_ne d
  · simp
set_option maxRecDepth 100000 in
set_option maxHeartbeats 8000000 in
theorem words8_main (w0 : World) (hD : WordsD8 w0) : ∀ (x : R) (v : Value) (w : World), Kept (fun _ => False) w0 w → RichS w x v → Rich.part x = true → count x ≤ 2000 →
    Calls Tryz.prog 20 #[v] w fun e w' => (∃ va, e = .returned va ∧ StrS w' va (bytesV (wordsR x))) ∧ Kept (fun _ => False) w w' := by
  refine R.ind fun k d l ih v w hw hr hp hc => ?_
  rw [RichS] at hr
  obtain ⟨ao, cp, rfl, hk, ho, hA⟩ := hr
  obtain ⟨i0, hi, hz0, hz1, hz2⟩ := info_parts info_str
  have HA := Lib.hid hA
  have HW := Lib.hid hw
  have HB := Lib.hid (Box.made w 28 (richA k d (.slice ao l.length cp)))
  by_cases hk1 : k = 1
  · subst hk1
    have hm : Dep.mayD d = true := by rw [Rich.part, if_pos rfl, Bool.and_eq_true] at hp; exact hp.1
    have DC := hD d (w.alloc (.cells (richA 1 d (.slice ao l.length cp)) 28)) hm ho (hw.alloc _)
    have HF := Lib.hid (show wordsR (.mk 1 d l) = Dep.wordsD d by rw [wordsR, if_pos rfl])
    clear ih hA hw hp hc hm hD
    go_enter Tryz.func20, Tryz.ntmps20
    go_wp2_with (first
      | (go_at_call 32; refine DC.mono ?_; rintro e w5 ⟨⟨va, rfl, hs5⟩, hk5⟩)
      | fail)
    go_ret
    exact ⟨⟨_, rfl, by rw [HF.out]; exact hs5⟩, ((Kept.refl _ _).alloc _).trans hk5 (fun _ _ h => h)⟩
  · have hall : allP l = true := by rw [Rich.part, if_neg hk1, Bool.and_eq_true, Bool.and_eq_true] at hp; exact hp.1.2
    rw [count] at hc
    have hll := counts_len l
    have HI := Lib.hid ih
    have HF := Lib.hid (show wordsR (.mk k d l) = [40] :: (wordsL k 0 l ++ [[41]]) by rw [wordsR, if_neg hk1])
    have HAl := Lib.hid hall
    have HC := Lib.hid (show counts l ≤ 2000 by omega)
    have hlI : l.length ≤ 2000 := by omega
    have hkb : ((k : Int) == 1) = false := beq_eq_false_iff_ne.2 (by omega)
    clear ih hA hw hp hc hall hll
    go_enter Tryz.func20, Tryz.ntmps20
    go_wp2_with fail
    have HRB := Lib.hid (show ∀ j, w.heap.size + 1 ≤ j → w.heap.size ≤ j from fun j h => by omega)
    have HR0 := Lib.hid (show ((w.alloc (.cells (richA k d (.slice ao l.length cp)) 28)).alloc (.cells #[.string ⟨#[40]⟩] 9)).ownsRow (w.heap.size + 1) 9 1 (.slice (some ⟨w.heap.size + 1, 0, none⟩) 1 1) 1 (cellsS (bytesV [[40]])) from by
      have h := Box.made (w.alloc (.cells (richA k d (.slice ao l.length cp)) 28)) 9 #[.string ⟨#[40]⟩]
      rw [World.size_alloc] at h
      exact own_one8 (Nat.le_refl _) h)
    go_loopw [5, 6] (fun v5 v6 wr => ∃ (i : Nat) (vt : Value) (L : List (List UInt8)), v6 = .int .i64 (i : Int) ∧ v5 = vt ∧ i ≤ l.length ∧ Hid (L = [40] :: wordsL k 0 (l.take i)) ∧ Hid (wr.ownsRow (w.heap.size + 1) 9 1 vt L.length (cellsS (bytesV L))) ∧ Hid (Box wr w.heap.size 28 (richA k d (.slice ao l.length cp))) ∧ Hid (Kept (fun _ => False) w wr)) (fun _ v6 _ => l.length - (intOf v6).toNat)
    case atStart => exact ⟨0, _, [[40]], rfl, rfl, Nat.zero_le _, Lib.hid (by rw [List.take_zero, wordsL]), HR0, Lib.hid (HB.out.after_alloc _), Lib.hid (((Kept.refl _ _).alloc _).alloc _)⟩
    case round =>
      obtain ⟨i, vt, L, rfl, hvt, hi', HL, HR, HBr, HK⟩ := hrel
      replace hvt := hvt.symm
      subst hvt
      rename World => wr
      obtain ⟨a3, c3, e3⟩ := own_form HR.out
      subst e3
      have b0 := HBr.out.cell 0
      have b6 := HBr.out.cell 6
      have hLn : L.length ≤ 8001 := by
        have h1 := wordsL_len (l.take i) (allP_take_yes fun y hy => allP_at HAl.out (List.mem_of_mem_take hy)) k 0
        have h2 := counts_take_le l i
        have := HC.out
        rw [HL.out]
        simp only [List.length_cons]
        omega
      by_cases hlt : i < l.length
      · obtain ⟨x, hx⟩ : ∃ x, l[i]? = some x := ⟨_, List.getElem?_eq_getElem hlt⟩
        obtain ⟨b, off, ao', cp', rfl, hb, hrx, h0, h1, h2, h3, h4, h5, h6⟩ := HA.out.part hx
        have H0 := Lib.hid h0
        have H1 := Lib.hid h1
        have H2 := Lib.hid h2
        have H3 := Lib.hid h3
        have H4 := Lib.hid h4
        have H5 := Lib.hid h5
        have H6 := Lib.hid h6
        have hxm := List.mem_of_getElem? hx
        have hpx := allP_at HAl.out hxm
        have hcx : count x ≤ 2000 := by
          have := counts_take hx
          have := counts_take_le l (i + 1)
          have := HC.out
          omega
        have PC := fun W (hk : Kept (fun _ => False) w W) => HI.out x hxm _ W (HW.out.trans hk (fun _ _ h => h)) (RichS.kept hk x _ hrx) hpx hcx
        have hX8 := wordsR_len x hpx
        obtain ⟨X, hX⟩ : ∃ X, X = bytesV (wordsR x) := ⟨_, rfl⟩
        have hXl : X.length ≤ 8000 := by rw [hX]; simp; omega
        obtain ⟨y0, hy0⟩ : ∃ y0, X[0]? = some y0 := ⟨_, List.getElem?_eq_getElem (by rw [hX]; have := words_some x; cases hq : wordsR x with | nil => exact absurd hq this | cons a q => simp)⟩
        have HY0 := Lib.hid hy0
        have HX := Lib.hid hX
        rw [← hX] at PC
        have hLn1 := wordsL_take k l 0 i x hx
        rw [Nat.zero_add] at hLn1
        have HLn := Lib.hid (show L ++ (sepL k i ++ wordsR x) = [40] :: wordsL k 0 (l.take (i + 1)) by rw [hLn1, HL.out]; rfl)
        have hi0 : (0 : Int) ≤ (i : Int) := by omega
        have hiI : (i : Int) < (l.length : Int) := by omega
        have d0 := (HK.out.cell (p := ⟨b, off + i * 7, none⟩) hb (fun h => h)).trans H0.out
        have d1 := (HK.out.cell (p := ⟨b, off + i * 7 + 1, none⟩) hb (fun h => h)).trans H1.out
        have d2 := (HK.out.cell (p := ⟨b, off + i * 7 + 2, none⟩) hb (fun h => h)).trans H2.out
        have d3 := (HK.out.cell (p := ⟨b, off + i * 7 + 3, none⟩) hb (fun h => h)).trans H3.out
        have d4 := (HK.out.cell (p := ⟨b, off + i * 7 + 4, none⟩) hb (fun h => h)).trans H4.out
        have d5 := (HK.out.cell (p := ⟨b, off + i * 7 + 5, none⟩) hb (fun h => h)).trans H5.out
        have d6 := (HK.out.cell (p := ⟨b, off + i * 7 + 6, none⟩) hb (fun h => h)).trans H6.out
        clear hx hrx h0 h1 h2 h3 h4 h5 h6 hxm hpx hcx hX8 hX hy0 hLn1
        by_cases hz : i = 0
        · have HS := Lib.hid (show sepL k i = [] by unfold sepL; rw [if_pos hz])
          rw [HS.out] at HLn
          have hi2 : ((i : Int) == 2) = false := by simp; omega
          have hi1 : ¬ (0 : Int) < (i : Int) := by omega
          clear hz
          go_wp2_with (first
            | (go_at_call 20; refine (PC _ HK.out).mono ?_; rintro e w5 ⟨⟨va, rfl, hs5⟩, hk5⟩; have HBr := Lib.hid (hk5.box HBr.out (fun h => h)); have HR := Lib.hid (hk5.owns HR.out (fun _ _ h => h)); have HK := Lib.hid (Kept.trans HK.out hk5 (fun _ _ h => h)); obtain ⟨ao5, cp5, rfl, hc5⟩ := hs5; obtain ⟨ad, e5, _, _⟩ := hc5 0 y0 HY0.out; subst e5; have HC5 := Lib.hid hc5; clear hk5 hc5)
            | (at_builtin; (refine wpList_append_own_at _ rfl _ _ 32 rfl (w.heap.size + 1) 9 i0 (.string ⟨#[]⟩) 1 16 Tryz.underlying32 hi hz0 hz1 hz2 rfl (by decide) _ _ _ rfl HR.out ad X.length cp5 (cellsS X) rfl (by rw [cellsS_len, Nat.mul_one]) (cells_at8 HC5.out) (cellsS_one _) (by unfold maxLen; omega) (by omega) (by have := HK.out.size; have := HBr.out.lt; omega) ?_; intro v2 w2 hown2 hgrow2 _ _; have HBr := Lib.hid (box_grown8 HBr.out HR.out hgrow2 (by omega)); have HK := Lib.hid (HK.out.grown hgrow2 (fun j hj => .inr (Nat.le_trans (Nat.le_succ _) (HR.out.lt j hj).1))); have HR := Lib.hid hown2; clear hown2 hgrow2))
            | fail)
          go_roundw
          case rel => exact ⟨i + 1, _, L ++ ([] ++ wordsR x), by go_num, rfl, by omega, HLn, Lib.hid (by have h := HR.out; rw [HX.out] at h; simpa [bytesV, cellsS, Nat.add_assoc] using h), HBr, HK⟩
          case measure => simp [intOf]; omega
        · have hi1 : (0 : Int) < (i : Int) := by omega
          by_cases hel : i = 2 ∧ (k = 4 ∨ k = 5)
          · have HS := Lib.hid (show sepL k i = [wElse] by unfold sepL sepW; rw [if_neg hz, if_pos hel])
            rw [HS.out] at HLn
            have hi2 : ((i : Int) == 2) = true := by simp; omega
            have hkk : k = 4 ∨ (k ≠ 4 ∧ k = 5) := by omega
            clear hz hel
            rcases hkk with hk4 | ⟨hk4, hk5⟩
            · have e4 : ((k : Int) == 4) = true := by simp; omega
              clear hk4
              go_wp2_with (first
                | (go_at_call 20; refine (PC _ HK.out).mono ?_; rintro e w5 ⟨⟨va, rfl, hs5⟩, hk5⟩; have HBr := Lib.hid (hk5.box HBr.out (fun h => h)); have HR := Lib.hid (hk5.owns HR.out (fun _ _ h => h)); have HK := Lib.hid (Kept.trans HK.out hk5 (fun _ _ h => h)); obtain ⟨ao5, cp5, rfl, hc5⟩ := hs5; obtain ⟨ad, e5, _, _⟩ := hc5 0 y0 HY0.out; subst e5; have HC5 := Lib.hid hc5; clear hk5 hc5)
                | (at_builtin; (refine wpList_append_own_at _ rfl _ _ 32 rfl (w.heap.size + 1) 9 i0 (.string ⟨#[]⟩) 1 16 Tryz.underlying32 hi hz0 hz1 hz2 rfl (by decide) _ _ _ rfl HR.out ad X.length cp5 (cellsS X) rfl (by rw [cellsS_len, Nat.mul_one]) (cells_at8 HC5.out) (cellsS_one _) (by unfold maxLen; omega) (by omega) (by have := HK.out.size; have := HBr.out.lt; omega) ?_; intro v2 w2 hown2 hgrow2 _ _; have HBr := Lib.hid (box_grown8 HBr.out HR.out hgrow2 (by omega)); have HK := Lib.hid (HK.out.grown hgrow2 (fun j hj => .inr (Nat.le_trans (Nat.le_succ _) (HR.out.lt j hj).1))); have HR := Lib.hid hown2; clear hown2 hgrow2))
                | (at_builtin; (refine wpList_append_own_at _ rfl _ _ 32 rfl (w.heap.size + 1) 9 i0 (.string ⟨#[]⟩) 1 16 Tryz.underlying32 hi hz0 hz1 hz2 rfl (by decide) _ _ _ rfl (HR.out.alloc _) ⟨wr.heap.size, 0, none⟩ 1 1 (cellsS [⟨#[101, 108, 115, 101]⟩]) rfl rfl (one_new8 _ _ _) (cellsS_one _) (by unfold maxLen; omega) (by omega) (by have := HK.out.size; have := HBr.out.lt; simp; omega) ?_; intro v1 w1 hown1 hgrow1 _ _; have HBr := Lib.hid (box_grown8 (HBr.out.after_alloc _) (HR.out.alloc _) hgrow1 (by omega)); have HK := Lib.hid ((HK.out.alloc _).grown hgrow1 (fun j hj => .inr (Nat.le_trans (Nat.le_succ _) (HR.out.lt j hj).1))); have HR := Lib.hid hown1; have b0 := HBr.out.cell 0; have b6 := HBr.out.cell 6; have d0 := (HK.out.cell (p := ⟨b, off + i * 7, none⟩) hb (fun h => h)).trans H0.out; have d1 := (HK.out.cell (p := ⟨b, off + i * 7 + 1, none⟩) hb (fun h => h)).trans H1.out; have d2 := (HK.out.cell (p := ⟨b, off + i * 7 + 2, none⟩) hb (fun h => h)).trans H2.out; have d3 := (HK.out.cell (p := ⟨b, off + i * 7 + 3, none⟩) hb (fun h => h)).trans H3.out; have d4 := (HK.out.cell (p := ⟨b, off + i * 7 + 4, none⟩) hb (fun h => h)).trans H4.out; have d5 := (HK.out.cell (p := ⟨b, off + i * 7 + 5, none⟩) hb (fun h => h)).trans H5.out; have d6 := (HK.out.cell (p := ⟨b, off + i * 7 + 6, none⟩) hb (fun h => h)).trans H6.out; clear hown1 hgrow1))
                | fail)
              go_roundw
              case rel => exact ⟨i + 1, _, L ++ ([wElse] ++ wordsR x), by go_num, rfl, by omega, HLn, Lib.hid (by have h := HR.out; rw [HX.out] at h; simpa [bytesV, cellsS, wElse, Nat.add_assoc, Nat.add_comm, Nat.add_left_comm] using h), HBr, HK⟩
              case measure => simp [intOf]; omega
            · have e4 : ((k : Int) == 4) = false := by simp; omega
              have e5 : ((k : Int) == 5) = true := by simp; omega
              clear hk4 hk5
              go_wp2_with (first
                | (go_at_call 20; refine (PC _ HK.out).mono ?_; rintro e w5 ⟨⟨va, rfl, hs5⟩, hk5⟩; have HBr := Lib.hid (hk5.box HBr.out (fun h => h)); have HR := Lib.hid (hk5.owns HR.out (fun _ _ h => h)); have HK := Lib.hid (Kept.trans HK.out hk5 (fun _ _ h => h)); obtain ⟨ao5, cp5, rfl, hc5⟩ := hs5; obtain ⟨ad, e5, _, _⟩ := hc5 0 y0 HY0.out; subst e5; have HC5 := Lib.hid hc5; clear hk5 hc5)
                | (at_builtin; (refine wpList_append_own_at _ rfl _ _ 32 rfl (w.heap.size + 1) 9 i0 (.string ⟨#[]⟩) 1 16 Tryz.underlying32 hi hz0 hz1 hz2 rfl (by decide) _ _ _ rfl HR.out ad X.length cp5 (cellsS X) rfl (by rw [cellsS_len, Nat.mul_one]) (cells_at8 HC5.out) (cellsS_one _) (by unfold maxLen; omega) (by omega) (by have := HK.out.size; have := HBr.out.lt; omega) ?_; intro v2 w2 hown2 hgrow2 _ _; have HBr := Lib.hid (box_grown8 HBr.out HR.out hgrow2 (by omega)); have HK := Lib.hid (HK.out.grown hgrow2 (fun j hj => .inr (Nat.le_trans (Nat.le_succ _) (HR.out.lt j hj).1))); have HR := Lib.hid hown2; clear hown2 hgrow2))
                | (at_builtin; (refine wpList_append_own_at _ rfl _ _ 32 rfl (w.heap.size + 1) 9 i0 (.string ⟨#[]⟩) 1 16 Tryz.underlying32 hi hz0 hz1 hz2 rfl (by decide) _ _ _ rfl (HR.out.alloc _) ⟨wr.heap.size, 0, none⟩ 1 1 (cellsS [⟨#[101, 108, 115, 101]⟩]) rfl rfl (one_new8 _ _ _) (cellsS_one _) (by unfold maxLen; omega) (by omega) (by have := HK.out.size; have := HBr.out.lt; simp; omega) ?_; intro v1 w1 hown1 hgrow1 _ _; have HBr := Lib.hid (box_grown8 (HBr.out.after_alloc _) (HR.out.alloc _) hgrow1 (by omega)); have HK := Lib.hid ((HK.out.alloc _).grown hgrow1 (fun j hj => .inr (Nat.le_trans (Nat.le_succ _) (HR.out.lt j hj).1))); have HR := Lib.hid hown1; have b0 := HBr.out.cell 0; have b6 := HBr.out.cell 6; have d0 := (HK.out.cell (p := ⟨b, off + i * 7, none⟩) hb (fun h => h)).trans H0.out; have d1 := (HK.out.cell (p := ⟨b, off + i * 7 + 1, none⟩) hb (fun h => h)).trans H1.out; have d2 := (HK.out.cell (p := ⟨b, off + i * 7 + 2, none⟩) hb (fun h => h)).trans H2.out; have d3 := (HK.out.cell (p := ⟨b, off + i * 7 + 3, none⟩) hb (fun h => h)).trans H3.out; have d4 := (HK.out.cell (p := ⟨b, off + i * 7 + 4, none⟩) hb (fun h => h)).trans H4.out; have d5 := (HK.out.cell (p := ⟨b, off + i * 7 + 5, none⟩) hb (fun h => h)).trans H5.out; have d6 := (HK.out.cell (p := ⟨b, off + i * 7 + 6, none⟩) hb (fun h => h)).trans H6.out; clear hown1 hgrow1))
                | fail)
              go_roundw
              case rel => exact ⟨i + 1, _, L ++ ([wElse] ++ wordsR x), by go_num, rfl, by omega, HLn, Lib.hid (by have h := HR.out; rw [HX.out] at h; simpa [bytesV, cellsS, wElse, Nat.add_assoc, Nat.add_comm, Nat.add_left_comm] using h), HBr, HK⟩
              case measure => simp [intOf]; omega
          · have HS := Lib.hid (show sepL k i = [wordK k] by unfold sepL sepW; rw [if_neg hz, if_neg hel])
            rw [HS.out] at HLn
            have hcs : i ≠ 2 ∨ (i = 2 ∧ k ≠ 4 ∧ k ≠ 5) := by omega
            clear hz hel
            rcases hcs with hi2' | ⟨hi2', hk4, hk5⟩
            · have hi2 : ((i : Int) == 2) = false := by simp; omega
              clear hi2'
              go_wp2_with (first
                | (go_at_call 20; refine (PC _ HK.out).mono ?_; rintro e w5 ⟨⟨va, rfl, hs5⟩, hk5⟩; have HBr := Lib.hid (hk5.box HBr.out (fun h => h)); have HR := Lib.hid (hk5.owns HR.out (fun _ _ h => h)); have HK := Lib.hid (Kept.trans HK.out hk5 (fun _ _ h => h)); obtain ⟨ao5, cp5, rfl, hc5⟩ := hs5; obtain ⟨ad, e5, _, _⟩ := hc5 0 y0 HY0.out; subst e5; have HC5 := Lib.hid hc5; clear hk5 hc5)
                | (at_builtin; (refine wpList_append_own_at _ rfl _ _ 32 rfl (w.heap.size + 1) 9 i0 (.string ⟨#[]⟩) 1 16 Tryz.underlying32 hi hz0 hz1 hz2 rfl (by decide) _ _ _ rfl HR.out ad X.length cp5 (cellsS X) rfl (by rw [cellsS_len, Nat.mul_one]) (cells_at8 HC5.out) (cellsS_one _) (by unfold maxLen; omega) (by omega) (by have := HK.out.size; have := HBr.out.lt; omega) ?_; intro v2 w2 hown2 hgrow2 _ _; have HBr := Lib.hid (box_grown8 HBr.out HR.out hgrow2 (by omega)); have HK := Lib.hid (HK.out.grown hgrow2 (fun j hj => .inr (Nat.le_trans (Nat.le_succ _) (HR.out.lt j hj).1))); have HR := Lib.hid hown2; clear hown2 hgrow2))
                | (go_at_call 33; refine (word8_walk k _).mono ?_; rintro e w6 ⟨rfl, hww⟩; have hwx := Eq.symm hww; clear hww; subst hwx)
                | (at_builtin; (refine wpList_append_own_at _ rfl _ _ 32 rfl (w.heap.size + 1) 9 i0 (.string ⟨#[]⟩) 1 16 Tryz.underlying32 hi hz0 hz1 hz2 rfl (by decide) _ _ _ rfl (HR.out.alloc _) ⟨wr.heap.size, 0, none⟩ 1 1 (cellsS [⟨(wordK k).toArray⟩]) rfl rfl (one_new8 _ _ _) (cellsS_one _) (by unfold maxLen; omega) (by omega) (by have := HK.out.size; have := HBr.out.lt; simp; omega) ?_; intro v1 w1 hown1 hgrow1 _ _; have HBr := Lib.hid (box_grown8 (HBr.out.after_alloc _) (HR.out.alloc _) hgrow1 (by omega)); have HK := Lib.hid ((HK.out.alloc _).grown hgrow1 (fun j hj => .inr (Nat.le_trans (Nat.le_succ _) (HR.out.lt j hj).1))); have HR := Lib.hid hown1; have b0 := HBr.out.cell 0; have b6 := HBr.out.cell 6; have d0 := (HK.out.cell (p := ⟨b, off + i * 7, none⟩) hb (fun h => h)).trans H0.out; have d1 := (HK.out.cell (p := ⟨b, off + i * 7 + 1, none⟩) hb (fun h => h)).trans H1.out; have d2 := (HK.out.cell (p := ⟨b, off + i * 7 + 2, none⟩) hb (fun h => h)).trans H2.out; have d3 := (HK.out.cell (p := ⟨b, off + i * 7 + 3, none⟩) hb (fun h => h)).trans H3.out; have d4 := (HK.out.cell (p := ⟨b, off + i * 7 + 4, none⟩) hb (fun h => h)).trans H4.out; have d5 := (HK.out.cell (p := ⟨b, off + i * 7 + 5, none⟩) hb (fun h => h)).trans H5.out; have d6 := (HK.out.cell (p := ⟨b, off + i * 7 + 6, none⟩) hb (fun h => h)).trans H6.out; clear hown1 hgrow1))
                | fail)
              go_roundw
              case rel => exact ⟨i + 1, _, L ++ ([wordK k] ++ wordsR x), by go_num, rfl, by omega, HLn, Lib.hid (by have h := HR.out; rw [HX.out] at h; simpa [bytesV, cellsS, wElse, Nat.add_assoc, Nat.add_comm, Nat.add_left_comm] using h), HBr, HK⟩
              case measure => simp [intOf]; omega
            · have hi2 : ((i : Int) == 2) = true := by simp; omega
              have e4 : ((k : Int) == 4) = false := by simp; omega
              have e5 : ((k : Int) == 5) = false := by simp; omega
              clear hi2' hk4 hk5
              go_wp2_with (first
                | (go_at_call 20; refine (PC _ HK.out).mono ?_; rintro e w5 ⟨⟨va, rfl, hs5⟩, hk5⟩; have HBr := Lib.hid (hk5.box HBr.out (fun h => h)); have HR := Lib.hid (hk5.owns HR.out (fun _ _ h => h)); have HK := Lib.hid (Kept.trans HK.out hk5 (fun _ _ h => h)); obtain ⟨ao5, cp5, rfl, hc5⟩ := hs5; obtain ⟨ad, e5, _, _⟩ := hc5 0 y0 HY0.out; subst e5; have HC5 := Lib.hid hc5; clear hk5 hc5)
                | (at_builtin; (refine wpList_append_own_at _ rfl _ _ 32 rfl (w.heap.size + 1) 9 i0 (.string ⟨#[]⟩) 1 16 Tryz.underlying32 hi hz0 hz1 hz2 rfl (by decide) _ _ _ rfl HR.out ad X.length cp5 (cellsS X) rfl (by rw [cellsS_len, Nat.mul_one]) (cells_at8 HC5.out) (cellsS_one _) (by unfold maxLen; omega) (by omega) (by have := HK.out.size; have := HBr.out.lt; omega) ?_; intro v2 w2 hown2 hgrow2 _ _; have HBr := Lib.hid (box_grown8 HBr.out HR.out hgrow2 (by omega)); have HK := Lib.hid (HK.out.grown hgrow2 (fun j hj => .inr (Nat.le_trans (Nat.le_succ _) (HR.out.lt j hj).1))); have HR := Lib.hid hown2; clear hown2 hgrow2))
                | (go_at_call 33; refine (word8_walk k _).mono ?_; rintro e w6 ⟨rfl, hww⟩; have hwx := Eq.symm hww; clear hww; subst hwx)
                | (at_builtin; (refine wpList_append_own_at _ rfl _ _ 32 rfl (w.heap.size + 1) 9 i0 (.string ⟨#[]⟩) 1 16 Tryz.underlying32 hi hz0 hz1 hz2 rfl (by decide) _ _ _ rfl (HR.out.alloc _) ⟨wr.heap.size, 0, none⟩ 1 1 (cellsS [⟨(wordK k).toArray⟩]) rfl rfl (one_new8 _ _ _) (cellsS_one _) (by unfold maxLen; omega) (by omega) (by have := HK.out.size; have := HBr.out.lt; simp; omega) ?_; intro v1 w1 hown1 hgrow1 _ _; have HBr := Lib.hid (box_grown8 (HBr.out.after_alloc _) (HR.out.alloc _) hgrow1 (by omega)); have HK := Lib.hid ((HK.out.alloc _).grown hgrow1 (fun j hj => .inr (Nat.le_trans (Nat.le_succ _) (HR.out.lt j hj).1))); have HR := Lib.hid hown1; have b0 := HBr.out.cell 0; have b6 := HBr.out.cell 6; have d0 := (HK.out.cell (p := ⟨b, off + i * 7, none⟩) hb (fun h => h)).trans H0.out; have d1 := (HK.out.cell (p := ⟨b, off + i * 7 + 1, none⟩) hb (fun h => h)).trans H1.out; have d2 := (HK.out.cell (p := ⟨b, off + i * 7 + 2, none⟩) hb (fun h => h)).trans H2.out; have d3 := (HK.out.cell (p := ⟨b, off + i * 7 + 3, none⟩) hb (fun h => h)).trans H3.out; have d4 := (HK.out.cell (p := ⟨b, off + i * 7 + 4, none⟩) hb (fun h => h)).trans H4.out; have d5 := (HK.out.cell (p := ⟨b, off + i * 7 + 5, none⟩) hb (fun h => h)).trans H5.out; have d6 := (HK.out.cell (p := ⟨b, off + i * 7 + 6, none⟩) hb (fun h => h)).trans H6.out; clear hown1 hgrow1))
                | fail)
              go_roundw
              case rel => exact ⟨i + 1, _, L ++ ([wordK k] ++ wordsR x), by go_num, rfl, by omega, HLn, Lib.hid (by have h := HR.out; rw [HX.out] at h; simpa [bytesV, cellsS, wElse, Nat.add_assoc, Nat.add_comm, Nat.add_left_comm] using h), HBr, HK⟩
              case measure => simp [intOf]; omega
      · have hge : ¬ (i : Int) < (l.length : Int) := by omega
        have HLF := Lib.hid (show L ++ [[41]] = wordsR (.mk k d l) by
          rw [HF.out, HL.out, List.take_of_length_le (by omega)]; rfl)
        go_wp2_with (first
          | (at_builtin; (refine wpList_append_own_at _ rfl _ _ 32 rfl (w.heap.size + 1) 9 i0 (.string ⟨#[]⟩) 1 16 Tryz.underlying32 hi hz0 hz1 hz2 rfl (by decide) _ _ _ rfl (HR.out.alloc _) ⟨wr.heap.size, 0, none⟩ 1 1 (cellsS [⟨#[41]⟩]) rfl rfl (one_new8 _ _ _) (cellsS_one _) (by unfold maxLen; omega) (by omega) (by have := HK.out.size; have := HBr.out.lt; simp; omega) ?_; intro v1 w1 hown1 hgrow1 _ _; have HBr := Lib.hid (box_grown8 (HBr.out.after_alloc _) (HR.out.alloc _) hgrow1 (by omega)); have HK := Lib.hid ((HK.out.alloc _).grown hgrow1 (fun j hj => .inr (Nat.le_trans (Nat.le_succ _) (HR.out.lt j hj).1))); have HR := Lib.hid hown1; have b0 := HBr.out.cell 0; have b6 := HBr.out.cell 6; clear hown1 hgrow1))
          | fail)
        go_ret
        refine ⟨⟨_, rfl, ?_⟩, HK.out⟩
        have h := HR.out
        rw [← HLF.out]
        exact own_strs (by simpa [bytesV, cellsS] using h)
set_option maxRecDepth 100000 in
set_option maxHeartbeats 2000000 in
theorem refwords8_walk (w0 : World) (hD : WordsD8 w0) (hM : MayR8 w0) (x : R) (v : Value) (w : World) (hw : Kept (fun _ => False) w0 w) (hr : RichS w x v) (hs : smallX x) (hc : count x ≤ 2000) :
    Calls Tryz.prog 9 #[v] w fun e w' => (∃ va, e = .returned (.tuple #[va, .int .i64 (if whole x = true then 0 else 4)]) ∧ StrS w' va (bytesV (if whole x = true then wordsR x else []))) ∧ Kept (fun _ => False) w w' := by
  have hM' : ∀ W, Kept (fun _ => False) w W → MayR8 W := fun W hk d W' h1 h2 h3 h4 h5 => hM d W' h1 h2 h3 h4 ((hw.trans hk (fun _ _ h => h)).trans h5 (fun _ _ h => h))
  have WC := fun W (hk : Kept (fun _ => False) w W) => whole8_walk x v W (hM' W hk) (RichS.kept hk x v hr) hs (by omega)
  have PC := fun (hp : Rich.part x = true) W (hk : Kept (fun _ => False) w W) => words8_main w0 hD x v W (hw.trans hk (fun _ _ h => h)) (RichS.kept hk x v hr) hp hc
  have hpx : whole x = true → Rich.part x = true := fun h => by unfold whole at h; simp only [Bool.and_eq_true] at h; exact h.1.1
  generalize wordsR x = wx at *
  generalize Rich.part x = px at *
  generalize whole x = hx at *
  obtain ⟨k, d, l⟩ := x
  rw [RichS] at hr
  obtain ⟨ao, cp, rfl, _⟩ := hr
  have HB := Lib.hid (Box.made w 28 (richA k d (.slice ao l.length cp)))
  have HK := Lib.hid ((Kept.refl (fun _ => False) w).alloc (.cells (richA k d (.slice ao l.length cp)) 28))
  clear hM hM' hs hD hw
  cases hx with
  | false =>
    clear PC hpx
    go_enter Tryz.func9, Tryz.ntmps9
    go_wp2_with (first
      | (go_at_call 14; refine (WC _ HK.out).mono ?_; rintro e w3 ⟨rfl, hk3⟩; have HK := Lib.hid (Kept.trans HK.out hk3 (fun _ _ h => h)); have HB := Lib.hid (hk3.box HB.out (fun h => h)); have b0 := HB.out.cell 0; have b1 := HB.out.cell 1; have b2 := HB.out.cell 2; have b3 := HB.out.cell 3; have b4 := HB.out.cell 4; have b5 := HB.out.cell 5; have b6 := HB.out.cell 6; clear hk3)
      | fail)
    go_ret2
    exact ⟨⟨_, rfl, ⟨none, 0, rfl, fun j u hj => by simp at hj⟩⟩, HK.out⟩
  | true =>
    have PC := PC (hpx rfl)
    clear hpx
    go_enter Tryz.func9, Tryz.ntmps9
    go_wp2_with (first
      | (go_at_call 14; refine (WC _ HK.out).mono ?_; rintro e w3 ⟨rfl, hk3⟩; have HK := Lib.hid (Kept.trans HK.out hk3 (fun _ _ h => h)); have HB := Lib.hid (hk3.box HB.out (fun h => h)); have b0 := HB.out.cell 0; have b1 := HB.out.cell 1; have b2 := HB.out.cell 2; have b3 := HB.out.cell 3; have b4 := HB.out.cell 4; have b5 := HB.out.cell 5; have b6 := HB.out.cell 6; clear hk3)
      | (go_at_call 20; refine (PC _ HK.out).mono ?_; rintro e w6 ⟨⟨va, rfl, hs6⟩, hk6⟩; have HK := Lib.hid (Kept.trans HK.out hk6 (fun _ _ h => h)))
      | fail)
    go_ret2
    exact ⟨⟨_, rfl, hs6⟩, HK.out⟩
end Go.Proofs.YtoebokgpdkklmaaGreatDoor

namespace Go.Proofs.YtoebokgpdkklmaaGreatDoor
open Go.RowKit Rich

mutual
def sameX : R → R → Bool
  | .mk k d l, .mk k' d' l' => decide (k = k') && sameD d d' && decide (l.length = l'.length) && sameL l l'
def sameL : List R → List R → Bool
  | x :: l, y :: l' => sameX x y && sameL l l'
  | _, _ => true
def sameD (d d' : Dep.D) : Bool := decide (d.name = d'.name) && decide (d.op = d'.op) && decide (d.evr.epoch = d'.evr.epoch) && decide (d.evr.ver = d'.evr.ver) && decide (d.evr.rel = d'.evr.rel)
end
theorem sameD_iff {d d' : Dep.D} : sameD d d' = true ↔ d = d' := by
  obtain ⟨n, o, ⟨e, v, r⟩⟩ := d
  obtain ⟨n', o', ⟨e', v', r'⟩⟩ := d'
  unfold sameD
  simp [and_assoc]
mutual
theorem sameX_iff : ∀ a b : R, sameX a b = true ↔ a = b
  | .mk k d l, .mk k' d' l' => by
    rw [sameX, Bool.and_eq_true, Bool.and_eq_true, Bool.and_eq_true, sameD_iff, decide_eq_true_eq, decide_eq_true_eq]
    constructor
    · rintro ⟨⟨⟨rfl, rfl⟩, h⟩, h2⟩
      rw [(sameL_iff l l' h).1 h2]
    · intro h
      injection h with h1 h2 h3
      subst h3
      exact ⟨⟨⟨h1, h2⟩, rfl⟩, (sameL_iff l l rfl).2 rfl⟩
theorem sameL_iff : ∀ l l' : List R, l.length = l'.length → (sameL l l' = true ↔ l = l')
  | [], [], _ => by rw [sameL]; simp; simp
  | x :: l, y :: l', h => by
    rw [sameL, Bool.and_eq_true, sameX_iff x y, sameL_iff l l' (by simpa using h)]
    simp
end
theorem sameL_at {l l' : List R} (hl : l.length = l'.length) {i : Nat} {x y : R} (hx : l[i]? = some x) (hy : l'[i]? = some y) (h : sameX x y = false) : sameL l l' = false := by
  cases hs : sameL l l' with
  | false => rfl
  | true =>
    have e := (sameL_iff l l' hl).1 hs
    subst e
    rw [hx] at hy
    injection hy with hy
    subst hy
    rw [(sameX_iff x x).2 rfl] at h
    cases h
theorem sameL_all : ∀ {l l' : List R}, l.length = l'.length → (∀ (i : Nat) x y, l[i]? = some x → l'[i]? = some y → sameX x y = true) → sameL l l' = true
  | [], [], _, _ => by rw [sameL]; simp
  | x :: l, y :: l', hl, h => by
    rw [sameL, h 0 x y rfl rfl, sameL_all (by simpa using hl) (fun i a b ha hb => h (i + 1) a b (by simpa using ha) (by simpa using hb))]
    rfl
set_option maxRecDepth 100000 in
set_option maxHeartbeats 4000000 in
theorem same8_walk : ∀ (x y : R) (v v' : Value) (w : World), RichS w x v → RichS w y v' → fitsX x →
    Calls Tryz.prog 15 #[v, v'] w fun e w' => e = .returned (.bool (sameX x y)) ∧ Kept (fun _ => False) w w' := by
  refine R.ind fun k d l ih y v v' w hr hr' hf => ?_
  obtain ⟨k', d', l'⟩ := y
  have hS : sameX (.mk k d l) (.mk k' d' l') = (decide (k = k') && sameD d d' && decide (l.length = l'.length) && sameL l l') := by rw [sameX]
  generalize sameX (.mk k d l) (.mk k' d' l') = sx at *
  rw [RichS] at hr hr'
  obtain ⟨ao, cp, rfl, hk, ho, hA⟩ := hr
  obtain ⟨ao', cp', rfl, hk', ho', hA'⟩ := hr'
  rw [fitsX] at hf
  obtain ⟨_, _, _, hll, hfl⟩ := hf
  have HI := Lib.hid ih
  have HA := Lib.hid hA
  have HA' := Lib.hid hA'
  have HFL := Lib.hid hfl
  have HB := Lib.hid ((Box.made w 28 (richA k d (.slice ao l.length cp))).after_alloc (.cells (richA k' d' (.slice ao' l'.length cp')) 28))
  have HB' := Lib.hid (show Box ((w.alloc (.cells (richA k d (.slice ao l.length cp)) 28)).alloc (.cells (richA k' d' (.slice ao' l'.length cp')) 28)) (w.heap.size + 1) 28 (richA k' d' (.slice ao' l'.length cp')) from by
    have h := Box.made (w.alloc (.cells (richA k d (.slice ao l.length cp)) 28)) 28 (richA k' d' (.slice ao' l'.length cp'))
    rw [World.size_alloc] at h
    exact h)
  clear ih hA hA' hfl
  by_cases c1 : k = k'
  · subst c1
    cases hd : sameD d d' with
    | true =>
      have hdd := sameD_iff.1 hd
      subst hdd
      rw [hd] at hS
      by_cases c2 : l.length = l'.length
      · have HS := Lib.hid (show sx = sameL l l' by rw [hS, decide_eq_true rfl, decide_eq_true c2]; rfl)
        have HC2 := Lib.hid c2
        have hne : ((l.length : Int) != (l'.length : Int)) = false := by simp; omega
        clear hS hd c2
        go_enter Tryz.func15, Tryz.ntmps15
        go_wp2_with fail
        go_loopw [5] (fun v5 wr => ∃ (i : Nat), v5 = .int .i64 (i : Int) ∧ i ≤ l.length ∧ Hid (∀ (j : Nat) a b, j < i → l[j]? = some a → l'[j]? = some b → sameX a b = true) ∧ Hid (Box wr w.heap.size 28 (richA k d (.slice ao l.length cp))) ∧ Hid (Box wr (w.heap.size + 1) 28 (richA k d (.slice ao' l'.length cp'))) ∧ Hid (Kept (fun _ => False) w wr)) (fun v5 _ => l.length - (intOf v5).toNat)
        case atStart => exact ⟨0, rfl, Nat.zero_le _, Lib.hid (by intro j a b h; omega), HB, HB', Lib.hid (((Kept.refl _ _).alloc _).alloc _)⟩
        case round =>
          obtain ⟨i, rfl, hi, HE, HBr, HBr', HK⟩ := hrel
          rename World => wr
          have b6 : wr.cell? ⟨w.heap.size, 6, none⟩ = some (.slice ao l.length cp) := HBr.out.cell 6
          have b6' : wr.cell? ⟨w.heap.size + 1, 6, none⟩ = some (.slice ao' l'.length cp') := HBr'.out.cell 6
          by_cases hlt : i < l.length
          · obtain ⟨x, hx⟩ : ∃ x, l[i]? = some x := ⟨_, List.getElem?_eq_getElem hlt⟩
            have hlt' : i < l'.length := by have := HC2.out; omega
            obtain ⟨y, hy⟩ : ∃ y, l'[i]? = some y := ⟨_, List.getElem?_eq_getElem hlt'⟩
            obtain ⟨b, off, ap, cpp, rfl, hb, hrx, d0, d1, d2, d3, d4, d5, d6⟩ := (ArgS.kept HK.out ao 0 l HA.out).part hx
            obtain ⟨b', off', ap', cpp', rfl, hb', hry, g0, g1, g2, g3, g4, g5, g6⟩ := (ArgS.kept HK.out ao' 0 l' HA'.out).part hy
            have PC := fun W (hk : Kept (fun _ => False) wr W) => HI.out x (List.mem_of_getElem? hx) y _ _ W (RichS.kept hk x _ hrx) (RichS.kept hk y _ hry) (fitsL_mem HFL.out (List.mem_of_getElem? hx))
            have hi0 : (0 : Int) ≤ (i : Int) := by omega
            have hiI : (i : Int) < (l.length : Int) := by omega
            have hiJ : (i : Int) < (l'.length : Int) := by omega
            cases hxy : sameX x y with
            | true =>
              have HN := Lib.hid (show ∀ (j : Nat) a b, j < i + 1 → l[j]? = some a → l'[j]? = some b → sameX a b = true from fun j a b hj ha hb2 => by
                by_cases hji : j < i
                · exact HE.out j a b hji ha hb2
                · obtain rfl : j = i := by omega
                  rw [hx] at ha
                  rw [hy] at hb2
                  injection ha with ha
                  injection hb2 with hb2
                  rw [← ha, ← hb2]; exact hxy)
              rw [hxy] at PC
              clear hx hy hrx hry hxy
              go_wp2_with fail
              go_region_with ((first
                | (go_at_call 15; refine (PC _ (by repeat' (first | exact Kept.refl _ _ | refine Kept.drewN ?_ _ | refine Kept.drew ?_))).mono ?_; rintro e w5 ⟨rfl, hk5⟩; have HK := Lib.hid (Kept.trans HK.out ((Kept.drew (Kept.refl (fun _ => False) wr)).trans hk5 (fun _ _ h => h)) (fun _ _ h => h)); have HBr := Lib.hid (((Kept.drew (Kept.refl (fun _ => False) wr)).trans hk5 (fun _ _ h => h)).box HBr.out (fun h => h)); have HBr' := Lib.hid (((Kept.drew (Kept.refl (fun _ => False) wr)).trans hk5 (fun _ _ h => h)).box HBr'.out (fun h => h)))
                | fail))
              all_goals go_wp2_with fail
              all_goals go_roundw
              all_goals first
                | exact ⟨i + 1, by go_num, by omega, HN, HBr, HBr', HK⟩
                | (simp [intOf]; omega)
            | false =>
              have HF := Lib.hid (show sx = false by rw [HS.out]; exact sameL_at HC2.out hx hy hxy)
              rw [hxy] at PC
              clear hx hy hrx hry hxy
              go_wp2_with fail
              go_region_with ((first
                | (go_at_call 15; refine (PC _ (by repeat' (first | exact Kept.refl _ _ | refine Kept.drewN ?_ _ | refine Kept.drew ?_))).mono ?_; rintro e w5 ⟨rfl, hk5⟩; have HK := Lib.hid (Kept.trans HK.out ((Kept.drew (Kept.refl (fun _ => False) wr)).trans hk5 (fun _ _ h => h)) (fun _ _ h => h)); have HBr := Lib.hid (((Kept.drew (Kept.refl (fun _ => False) wr)).trans hk5 (fun _ _ h => h)).box HBr.out (fun h => h)); have HBr' := Lib.hid (((Kept.drew (Kept.refl (fun _ => False) wr)).trans hk5 (fun _ _ h => h)).box HBr'.out (fun h => h)))
                | fail))
              all_goals go_wp2_with fail
              all_goals go_ret
              all_goals exact ⟨by rw [HF.out]; rfl, HK.out⟩
          · have hge : ¬ (i : Int) < (l.length : Int) := by omega
            have HF := Lib.hid (show sx = true by
              rw [HS.out]
              exact sameL_all HC2.out fun j a b ha hb => HE.out j a b (by have := (List.getElem?_eq_some_iff.1 ha).1; omega) ha hb)
            go_wp2_with fail
            go_ret
            exact ⟨by rw [HF.out]; rfl, HK.out⟩
      · have HF := Lib.hid (show sx = false by rw [hS, decide_eq_false c2, Bool.and_false, Bool.false_and])
        have hne : ((l.length : Int) != (l'.length : Int)) = true := by simp; omega
        clear hS hd c2 HI
        go_enter Tryz.func15, Tryz.ntmps15
        go_wp2_with fail
        all_goals go_ret
        all_goals exact ⟨by rw [HF.out]; rfl, ((Kept.refl _ _).alloc _).alloc _⟩
    | false =>
      have HF := Lib.hid (show sx = false by rw [hS, hd, Bool.and_false, Bool.false_and, Bool.false_and])
      obtain ⟨n, o, ⟨e, vv, r⟩⟩ := d
      obtain ⟨n', o', ⟨e', vv', r'⟩⟩ := d'
      unfold sameD at hd
      clear hS HI HA HA' HFL HB HB'
      by_cases q1 : n = n'
      · subst q1
        by_cases q2 : o = o'
        · subst q2
          by_cases q3 : e = e'
          · subst q3
            by_cases q4 : vv = vv'
            · subst q4
              have q5 : ¬ r = r' := fun e => by subst e; simp at hd
              clear hd
              go_enter Tryz.func15, Tryz.ntmps15
              go_wp2_with fail
              all_goals go_ret
              all_goals exact ⟨by rw [HF.out]; rfl, ((Kept.refl _ _).alloc _).alloc _⟩
            · skip
              clear hd
              go_enter Tryz.func15, Tryz.ntmps15
              go_wp2_with fail
              all_goals go_ret
              all_goals exact ⟨by rw [HF.out]; rfl, ((Kept.refl _ _).alloc _).alloc _⟩
          · skip
            clear hd
            go_enter Tryz.func15, Tryz.ntmps15
            go_wp2_with fail
            all_goals go_ret
            all_goals exact ⟨by rw [HF.out]; rfl, ((Kept.refl _ _).alloc _).alloc _⟩
        · skip
          clear hd
          go_enter Tryz.func15, Tryz.ntmps15
          go_wp2_with fail
          all_goals go_ret
          all_goals exact ⟨by rw [HF.out]; rfl, ((Kept.refl _ _).alloc _).alloc _⟩
      · skip
        clear hd
        go_enter Tryz.func15, Tryz.ntmps15
        go_wp2_with fail
        all_goals go_ret
        all_goals exact ⟨by rw [HF.out]; rfl, ((Kept.refl _ _).alloc _).alloc _⟩
  · have HF := Lib.hid (show sx = false by rw [hS, decide_eq_false c1]; rfl)
    have hkk : ((k : Int) != (k' : Int)) = true := by simp; omega
    clear hS c1 HI
    go_enter Tryz.func15, Tryz.ntmps15
    go_wp2_with fail
    all_goals go_ret
    all_goals exact ⟨by rw [HF.out]; rfl, ((Kept.refl _ _).alloc _).alloc _⟩
end Go.Proofs.YtoebokgpdkklmaaGreatDoor
