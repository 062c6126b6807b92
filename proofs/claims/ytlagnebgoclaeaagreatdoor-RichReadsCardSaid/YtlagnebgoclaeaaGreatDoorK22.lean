/-
  The walks over the program's own text of layer 8: words, Words, Whole, Show. The walk over the program's reader of layer 8: a plain dependency. Conditions: as each theorem states.
-/
import Derived.Test.YtlagnebgoclaeaaGreatDoorK21
import Derived.Test.YtlagnebgoclaeaaGreatDoorK08
import Derived.Test.YtlagnebgoclaeaaGreatDoorK09
import Derived.Test.YtlagnebgoclaeaaGreatDoorK10
namespace Go.Proofs.YtlagnebgoclaeaaGreatDoor
open Go.RowKit Rich

/-- What the program's Words (layer 6) answers, in worlds that keep what w0 has. -/
def WordsP8 (w0 : World) : Prop := ∀ (d : Dep.D) (w : World), Dep.mayD d = true → d.op < 256 → Kept (fun _ => False) w0 w →
  Calls Tryz.prog 36 #[.agg #[.string ⟨d.name.toArray⟩, .int .u8 (d.op : Int), .int .i64 d.evr.epoch, .string ⟨d.evr.ver.toArray⟩, .string ⟨d.evr.rel.toArray⟩]] w fun e w' => (∃ v, e = .returned (.tuple #[v, .int .i64 0]) ∧ StrS w' v (bytesV (Dep.wordsD d))) ∧ Kept (fun _ => False) w w'
theorem bytes_texts : ∀ l : List ByteArray, bytesV (textsB l) = l
  | [] => rfl
  | a :: l => by
    have := bytes_texts l
    simp only [bytesV, textsB, List.map_cons] at this ⊢
    rw [this]
theorem wordsP8_of {w0 : World} (hL : LibW w0) (hW : NotW w0) : WordsP8 w0 := by
  intro d w hm ho hk
  have hs := name_sizes hm
  obtain ⟨n, o, ⟨ep, v, r⟩⟩ := d
  refine (words_walk hL hW ⟨n.toArray⟩ o ho ep ⟨v.toArray⟩ ⟨r.toArray⟩ (by have := hs.1; show n.toArray.size ≤ _; simp at this ⊢; omega) (by have := hs.2.1; show v.toArray.size ≤ _; simp at this ⊢; omega) (by have := hs.2.2; show r.toArray.size ≤ _; simp at this ⊢; omega) w hk).mono fun e w' ⟨h1, h2⟩ => ⟨?_, h2⟩
  rcases h1 with ⟨h3, _⟩ | ⟨_, va, h4, h5⟩
  · exact absurd (show Dep.mayD ⟨n, o, ⟨ep, v, r⟩⟩ = false from h3) (by rw [hm]; simp)
  · refine ⟨va, h4, ?_⟩
    have e1 : bytesV (Dep.wordsD ⟨n, o, ⟨ep, v, r⟩⟩) = wordsB ⟨n.toArray⟩ o ep ⟨v.toArray⟩ ⟨r.toArray⟩ := by
      have := wordsB_texts ⟨n.toArray⟩ o ep ⟨v.toArray⟩ ⟨r.toArray⟩
      rw [show Dep.wordsD ⟨n, o, ⟨ep, v, r⟩⟩ = textsB (wordsB ⟨n.toArray⟩ o ep ⟨v.toArray⟩ ⟨r.toArray⟩) from this.symm]
      exact bytes_texts _
    rw [e1]
    exact own_strs h5
theorem box_grown_ne {w w1 : World} {g base n size : Nat} {e t : TypeId} {v : Value} {xs : List Value} {cs : Array Value} (hb : Box w g t cs) (ho : w.ownsRow base e size v n xs) (hg : w.grownBy w1 v.ownBlock) (hne : e ≠ t) : Box w1 g t cs :=
  (hg.block g hb.lt (fun e => Box.of_own_ne hb ho hne g e.symm rfl)).trans hb
theorem one_new8g (W : World) (g : Nat) (t : TypeId) (s : ByteArray) (hg : g = W.heap.size) : ∀ (j : Nat) u, (cellsS [s])[j]? = some u → (W.alloc (.cells #[.string s] t)).cell? ((⟨g, 0, none⟩ : Addr).add j) = some u := by
  subst hg
  exact one_new8 W t s
theorem okN_less {k n i : Nat} (h : okN k n = true) (h1 : 1 ≤ i) (hi : i < n) : okN k (i + 1) = true := by
  unfold okN at h ⊢
  split at h
  · rename_i hk; rw [if_pos hk]; simp; omega
  · rename_i hk; rw [if_neg hk]
    split at h
    · rename_i hk2; rw [if_pos hk2]; simp at h ⊢; omega
    · rename_i hk2; rw [if_neg hk2]
      split at h
      · rename_i hk3; rw [if_pos hk3]; simp at h ⊢; omega
      · cases h
set_option maxRecDepth 100000 in
set_option maxHeartbeats 8000000 in
theorem wordsP_main (w0 : World) (hD : WordsP8 w0) (hRow : RowsW w0) : ∀ (x : R) (v : Value) (w : World), Kept (fun _ => False) w0 w → RichS w x v → Rich.part x = true → count x ≤ 24 →
    Calls Tryz.prog 23 #[v] w fun e w' => (∃ va, e = .returned va ∧ StrS w' va (bytesV (wordsR x))) ∧ Kept (fun _ => False) w w' := by
  refine R.ind fun k d l ih v w hw hr hp hc => ?_
  rw [RichS] at hr
  obtain ⟨ao, cp, rfl, hk, ho, hA⟩ := hr
  obtain ⟨i0, hi, hz0, hz1, hz2⟩ := info_parts info_str
  have HA := Lib.hid hA
  have HW := Lib.hid hw
  have HB := Lib.hid (Box.made w 28 (richA k d (.slice ao l.length cp)))
  by_cases hk1 : k = 1
  · subst hk1
    have hm : Dep.mayD d = true := by rw [Rich.part, if_pos rfl, Bool.and_eq_true] at hp; exact hp.1
    have DC := hD d (w.alloc (.cells (richA 1 d (.slice ao l.length cp)) 28)) hm ho (hw.alloc _)
    have HF := Lib.hid (show wordsR (.mk 1 d l) = Dep.wordsD d by rw [wordsR, if_pos rfl])
    clear ih hA hw hp hc hm hD hRow
    go_enter Tryz.func23, Tryz.ntmps23
    go_wp2_with (first
      | (go_at_call 36; refine DC.mono ?_; rintro e w5 ⟨⟨va, rfl, hs5⟩, hk5⟩)
      | fail)
    go_ret
    exact ⟨⟨_, rfl, by rw [HF.out]; exact hs5⟩, ((Kept.refl _ _).alloc _).trans hk5 (fun _ _ h => h)⟩
  · obtain ⟨hokn, hall, hdz⟩ := (part_other hk1).1 hp
    have HOK := Lib.hid hokn
    have hkk := okN_kind hokn
    rw [count] at hc
    have hll := counts_len l
    have HI := Lib.hid ih
    have HF := Lib.hid (show wordsR (.mk k d l) = [40] :: (wordsL k 0 l ++ [[41]]) by rw [wordsR, if_neg hk1])
    have HAl := Lib.hid hall
    have HC := Lib.hid (show counts l ≤ 23 by omega)
    have HRW := Lib.hid hRow
    have hlI : l.length ≤ 23 := by omega
    have hkb : ((k : Int) == 1) = false := beq_eq_false_iff_ne.2 (by omega)
    clear ih hA hw hp hc hall hll hdz hokn hRow hD
    go_enter Tryz.func23, Tryz.ntmps23
    go_wp2_with fail
    have HR0 := Lib.hid (show ((w.alloc (.cells (richA k d (.slice ao l.length cp)) 28)).alloc (.cells #[.string ⟨#[40]⟩] 9)).ownsRow (w.heap.size + 1) 9 1 (.slice (some ⟨w.heap.size + 1, 0, none⟩) 1 1) 1 (cellsS (bytesV [[40]])) from by
      have h := Box.made (w.alloc (.cells (richA k d (.slice ao l.length cp)) 28)) 9 #[.string ⟨#[40]⟩]
      rw [World.size_alloc] at h
      exact own_one8 (Nat.le_refl _) h)
    go_loopw [5, 22] (fun v5 v6 wr => ∃ (i : Nat) (vt : Value) (L : List (List UInt8)), v6 = .int .i64 (i : Int) ∧ v5 = vt ∧ i ≤ l.length ∧ Hid (L = [40] :: wordsL k 0 (l.take i)) ∧ Hid (wr.ownsRow (w.heap.size + 1) 9 1 vt L.length (cellsS (bytesV L))) ∧ Hid (Box wr w.heap.size 28 (richA k d (.slice ao l.length cp))) ∧ Hid (Kept (fun _ => False) w wr)) (fun _ v6 _ => l.length - (intOf v6).toNat)
    case atStart => exact ⟨0, _, [[40]], rfl, rfl, Nat.zero_le _, Lib.hid (by rw [List.take_zero, wordsL]), HR0, Lib.hid (HB.out.after_alloc _), Lib.hid (((Kept.refl _ _).alloc _).alloc _)⟩
    case round =>
      obtain ⟨i, vt, L, rfl, hvt, hi', HL, HR, HBr, HK⟩ := hrel
      replace hvt := hvt.symm
      subst hvt
      rename World => wr
      obtain ⟨a3, c3, e3⟩ := own_form HR.out
      subst e3
      have hLn : L.length ≤ 93 := by
        have h1 := wordsL_len (l.take i) (allP_take_yes fun y hy => allP_at HAl.out (List.mem_of_mem_take hy)) k 0
        have h2 := counts_take_le l i
        have := HC.out
        rw [HL.out]
        simp only [List.length_cons]
        omega
      by_cases hlt : i < l.length
      · obtain ⟨x, hx⟩ : ∃ x, l[i]? = some x := ⟨_, List.getElem?_eq_getElem hlt⟩
        obtain ⟨b, off, ao', cp', rfl, hb, hrx, h0, h1, h2, h3, h4, h5, h6⟩ := HA.out.part hx
        have hxm := List.mem_of_getElem? hx
        have hpx := allP_at HAl.out hxm
        have hcx : count x ≤ 24 := by
          have := counts_take hx
          have := counts_take_le l (i + 1)
          have := HC.out
          omega
        have PC := fun W (hk : Kept (fun _ => False) w W) => HI.out x hxm _ W (HW.out.trans hk (fun _ _ h => h)) (RichS.kept hk x _ hrx) hpx hcx
        have hX8 := wordsR_len x hpx
        obtain ⟨X, hX⟩ : ∃ X, X = bytesV (wordsR x) := ⟨_, rfl⟩
        have hXl : X.length ≤ 8000 := by rw [hX]; simp; omega
        obtain ⟨y0, hy0⟩ : ∃ y0, X[0]? = some y0 := ⟨_, List.getElem?_eq_getElem (by rw [hX]; have := words_some x; cases hq : wordsR x with | nil => exact absurd hq this | cons a q => simp)⟩
        have HY0 := Lib.hid hy0
        have HX := Lib.hid hX
        rw [← hX] at PC
        have hLn1 := wordsL_take k l 0 i x hx
        rw [Nat.zero_add] at hLn1
        have HLn := Lib.hid (show L ++ (sepL k i ++ wordsR x) = [40] :: wordsL k 0 (l.take (i + 1)) by rw [hLn1, HL.out]; rfl)
        have HAS := Lib.hid (fun (h1 : 1 ≤ i) => ahead_sep ⟨hkk.1, hkk.2.1⟩ h1 (okN_less HOK.out h1 hlt) (by omega))
        have AC := fun W (hW : Kept (fun _ => False) w W) => aheadP_walk k i hk W (HRW.out.kept (HW.out.trans hW (fun _ _ h => h)))
        have hi0 : (0 : Int) ≤ (i : Int) := by omega
        have hiI : (i : Int) < (l.length : Int) := by omega
        have d0 := (HK.out.cell (p := ⟨b, off + i * 7, none⟩) hb (fun h => h)).trans h0
        have d1 := (HK.out.cell (p := ⟨b, off + i * 7 + 1, none⟩) hb (fun h => h)).trans h1
        have d2 := (HK.out.cell (p := ⟨b, off + i * 7 + 2, none⟩) hb (fun h => h)).trans h2
        have d3 := (HK.out.cell (p := ⟨b, off + i * 7 + 3, none⟩) hb (fun h => h)).trans h3
        have d4 := (HK.out.cell (p := ⟨b, off + i * 7 + 4, none⟩) hb (fun h => h)).trans h4
        have d5 := (HK.out.cell (p := ⟨b, off + i * 7 + 5, none⟩) hb (fun h => h)).trans h5
        have d6 := (HK.out.cell (p := ⟨b, off + i * 7 + 6, none⟩) hb (fun h => h)).trans h6
        have b6 := HBr.out.cell 6
        obtain ⟨kx, dx, lx⟩ := x
        dsimp only [R.kind, R.dep, R.args] at d0 d1 d2 d3 d4 d5 d6
        have HBa := Lib.hid (Box.made wr 28 (richA kx dx (.slice ao' lx.length cp')))
        have HBr := Lib.hid (HBr.out.after_alloc (.cells (richA kx dx (.slice ao' lx.length cp')) 28))
        have HR := Lib.hid (HR.out.alloc (.cells (richA kx dx (.slice ao' lx.length cp')) 28))
        have HK := Lib.hid (HK.out.alloc (.cells (richA kx dx (.slice ao' lx.length cp')) 28))
        have b0 := HBr.out.cell 0
        clear hx hrx h0 h1 h2 h3 h4 h5 h6 hxm hpx hcx hX8 hX hy0 hLn1
        by_cases hz : i = 0
        · have HS := Lib.hid (show sepL k i = [] by unfold sepL; rw [if_pos hz])
          rw [HS.out] at HLn
          have hi1 : ¬ (0 : Int) < (i : Int) := by omega
          clear hz
          go_wp2_with (first
            | (go_at_call 23; refine (PC _ HK.out).mono ?_; rintro e w5 ⟨⟨va, rfl, hs5⟩, hk5⟩; have HBr := Lib.hid (hk5.box HBr.out (fun h => h)); have HR := Lib.hid (hk5.owns HR.out (fun _ _ h => h)); have HK := Lib.hid (Kept.trans HK.out hk5 (fun _ _ h => h)); obtain ⟨ao5, cp5, rfl, hc5⟩ := hs5; obtain ⟨ad, e5, _, _⟩ := hc5 0 y0 HY0.out; subst e5; have HC5 := Lib.hid hc5; clear hk5 hc5)
            | (at_builtin; (refine wpList_append_own_at _ rfl _ _ 32 rfl (w.heap.size + 1) 9 i0 (.string ⟨#[]⟩) 1 16 Tryz.underlying32 hi hz0 hz1 hz2 rfl (by decide) _ _ _ rfl HR.out ad X.length cp5 (cellsS X) rfl (by rw [cellsS_len, Nat.mul_one]) (cells_at8 HC5.out) (cellsS_one _) (by unfold maxLen; omega) (by omega) (by have := HK.out.size; have := HBr.out.lt; omega) ?_; intro v2 w2 hown2 hgrow2 _ _; have HBr := Lib.hid (box_grown8 HBr.out HR.out hgrow2 (by omega)); have HK := Lib.hid (HK.out.grown hgrow2 (fun j hj => .inr (Nat.le_trans (Nat.le_succ _) (HR.out.lt j hj).1))); have HR := Lib.hid hown2; clear hown2 hgrow2))
            | fail)
          go_roundw
          case rel => exact ⟨i + 1, _, L ++ ([] ++ wordsR (.mk kx dx lx)), by go_num, rfl, by omega, HLn, Lib.hid (by have h := HR.out; rw [HX.out] at h; simpa [bytesV, cellsS, Nat.add_assoc] using h), HBr, HK⟩
          case measure => simp [intOf]; omega
        · have hi1 : (0 : Int) < (i : Int) := by omega
          have HS := Lib.hid (show sepL k i = [aheadW k i] by unfold sepL; rw [if_neg hz, HAS.out (by omega)])
          rw [HS.out] at HLn
          clear hz HS HAS
          generalize aheadW k i = aw at *
          go_wp2_with (first
            | (go_at_call 23; refine (PC _ HK.out).mono ?_; rintro e w5 ⟨⟨va, rfl, hs5⟩, hk5⟩; have HBr := Lib.hid (hk5.box HBr.out (fun h => h)); have HR := Lib.hid (hk5.owns HR.out (fun _ _ h => h)); have HK := Lib.hid (Kept.trans HK.out hk5 (fun _ _ h => h)); obtain ⟨ao5, cp5, rfl, hc5⟩ := hs5; obtain ⟨ad, e5, _, _⟩ := hc5 0 y0 HY0.out; subst e5; have HC5 := Lib.hid hc5; clear hk5 hc5)
            | (at_builtin; (refine wpList_append_own_at _ rfl _ _ 32 rfl (w.heap.size + 1) 9 i0 (.string ⟨#[]⟩) 1 16 Tryz.underlying32 hi hz0 hz1 hz2 rfl (by decide) _ _ _ rfl HR.out ad X.length cp5 (cellsS X) rfl (by rw [cellsS_len, Nat.mul_one]) (cells_at8 HC5.out) (cellsS_one _) (by unfold maxLen; omega) (by omega) (by have := HK.out.size; have := HBr.out.lt; omega) ?_; intro v2 w2 hown2 hgrow2 _ _; have HBr := Lib.hid (box_grown8 HBr.out HR.out hgrow2 (by omega)); have HK := Lib.hid (HK.out.grown hgrow2 (fun j hj => .inr (Nat.le_trans (Nat.le_succ _) (HR.out.lt j hj).1))); have HR := Lib.hid hown2; clear hown2 hgrow2))
            | (go_at_call 37; refine (AC _ HK.out).mono ?_; rintro e w6 ⟨rfl, hww⟩; have hwx := Eq.symm hww; clear hww; subst hwx)
            | (at_builtin; (refine wpList_append_own_at _ rfl _ _ 32 rfl (w.heap.size + 1) 9 i0 (.string ⟨#[]⟩) 1 16 Tryz.underlying32 hi hz0 hz1 hz2 rfl (by decide) _ _ _ rfl (HR.out.alloc _) ⟨wr.heap.size + 1, 0, none⟩ 1 1 (cellsS [⟨aw.toArray⟩]) rfl rfl (one_new8g _ _ _ _ (by simp)) (cellsS_one _) (by unfold maxLen; omega) (by omega) (by have := HK.out.size; have := HBr.out.lt; simp at this ⊢; omega) ?_; intro v1 w1 hown1 hgrow1 _ _; have HBr := Lib.hid (box_grown8 (HBr.out.after_alloc _) (HR.out.alloc _) hgrow1 (by omega)); have HBa := Lib.hid (box_grown_ne (HBa.out.after_alloc _) (HR.out.alloc _) hgrow1 (by decide)); have HK := Lib.hid ((HK.out.alloc _).grown hgrow1 (fun j hj => .inr (Nat.le_trans (Nat.le_succ _) (HR.out.lt j hj).1))); have HR := Lib.hid hown1; have a0 := HBa.out.cell 0; have a1 := HBa.out.cell 1; have a2 := HBa.out.cell 2; have a3 := HBa.out.cell 3; have a4 := HBa.out.cell 4; have a5 := HBa.out.cell 5; have a6 := HBa.out.cell 6; clear hown1 hgrow1))
            | fail)
          go_roundw
          case rel => exact ⟨i + 1, _, L ++ ([aw] ++ wordsR (.mk kx dx lx)), by go_num, rfl, by omega, HLn, Lib.hid (by have h := HR.out; rw [HX.out] at h; simpa [bytesV, cellsS, Nat.add_assoc, Nat.add_comm, Nat.add_left_comm] using h), HBr, HK⟩
          case measure => simp [intOf]; omega
      · have hge : ¬ (i : Int) < (l.length : Int) := by omega
        have HLF := Lib.hid (show L ++ [[41]] = wordsR (.mk k d l) by
          rw [HF.out, HL.out, List.take_of_length_le (by omega)]; rfl)
        go_wp2_with (first
          | (at_builtin; (refine wpList_append_own_at _ rfl _ _ 32 rfl (w.heap.size + 1) 9 i0 (.string ⟨#[]⟩) 1 16 Tryz.underlying32 hi hz0 hz1 hz2 rfl (by decide) _ _ _ rfl (HR.out.alloc _) ⟨wr.heap.size, 0, none⟩ 1 1 (cellsS [⟨#[41]⟩]) rfl rfl (one_new8 _ _ _) (cellsS_one _) (by unfold maxLen; omega) (by omega) (by have := HK.out.size; have := HBr.out.lt; simp; omega) ?_; intro v1 w1 hown1 hgrow1 _ _; have HBr := Lib.hid (box_grown8 (HBr.out.after_alloc _) (HR.out.alloc _) hgrow1 (by omega)); have HK := Lib.hid ((HK.out.alloc _).grown hgrow1 (fun j hj => .inr (Nat.le_trans (Nat.le_succ _) (HR.out.lt j hj).1))); have HR := Lib.hid hown1; clear hown1 hgrow1))
          | fail)
        go_ret
        refine ⟨⟨_, rfl, ?_⟩, HK.out⟩
        have h := HR.out
        rw [← HLF.out]
        exact own_strs (by simpa [bytesV, cellsS] using h)
end Go.Proofs.YtlagnebgoclaeaaGreatDoor

namespace Go.Proofs.YtlagnebgoclaeaaGreatDoor
open Go.RowKit Rich Lex Span

/-- What the program's Of (layer 6) answers, in worlds that keep what w0 has. -/
def OfP8 (w0 : World) : Prop := ∀ (va : Value) (xs : List ByteArray) (w : World), Kept (fun _ => False) w0 w → StrS w va xs → (∀ u ∈ xs, u.size ≤ 1000000) →
  Calls Tryz.prog 90 #[va] w fun e w' => e = .returned (ofV (Dep.ofD (textsB xs))) ∧ Kept (fun _ => False) w w'
theorem ofP8_of {w0 : World} (hL : LibW w0) (hW : NotW w0) : OfP8 w0 := fun va xs w hw ha hsz => of_walk hL hW va xs w hw ha hsz
/-- What reading a part comes to. -/
def ReadP (w : World) (G e o : Nat) (r : Res) (ee : Ending) (w' : World) : Prop :=
  match r with
  | .ok (x, n2, ws2) => (∃ v, ee = .returned v ∧ RichN w.heap.size w' x v) ∧ RdP w' G e ws2 n2 o ∧ Kept (fun b => b = G) w w'
  | .error (p, er) => ee = .panicked [faultR p er] ∧ Kept (fun b => b = G) w w'
theorem ReadP.ok {w : World} {G e o : Nat} {r : Res} {x : R} {n2 : Nat} {ws2 : List Wd} {v : Value} {w' : World} (hr : r = .ok (x, n2, ws2)) (h1 : RichN w.heap.size w' x v) (h2 : RdP w' G e ws2 n2 o) (h3 : Kept (fun b => b = G) w w') : ReadP w G e o r (.returned v) w' := by
  subst hr; exact ⟨⟨v, rfl, h1⟩, h2, h3⟩
theorem ReadP.err {w : World} {G e o : Nat} {r : Res} {p : Nat} {er : Int} {w' : World} (hr : r = .error (p, er)) (h3 : Kept (fun b => b = G) w w') : ReadP w G e o r (.panicked [faultR p er]) w' := by
  subst hr; exact ⟨rfl, h3⟩
theorem panic_ofs {v : PanicEntry} {l : List PanicEntry} : v :: l = v :: l := rfl
/-- Texts of the first words. -/
abbrev txtB (l : List Wd) : List ByteArray := l.map fun q => ⟨q.1.toArray⟩
theorem txtB_texts (l : List Wd) : textsB (txtB l) = l.map Prod.fst := by
  simp [textsB, txtB, Function.comp_def]
theorem txtB_take {ws : List Wd} {i : Nat} {q : Wd} (h : ws[i]? = some q) : txtB (ws.take (i + 1)) = txtB (ws.take i) ++ [⟨q.1.toArray⟩] := by
  rw [List.take_add_one, h]; simp [txtB]
set_option maxRecDepth 100000 in
set_option maxHeartbeats 4000000 in
theorem plainR_many {w : World} {G e n o : Nat} {ws : List Wd} {ao : Option Addr} {cp : Nat} (h : RdW w G e ws n o ao cp) (h24 : n ≤ 24) (hn : 24 < n + 1) :
    Calls Tryz.prog 74 #[.pointer (some ⟨G, 0, none⟩)] w fun ee w' => ee = .panicked [faultR (placeW e ws) 40] ∧ Kept (fun b => b = G) w w' := by
  have BC := beginR_no (h.alloc (.cells #[.int .u8 0, .string ⟨#[]⟩, .int .u8 0, .int .i64 0, .string ⟨#[]⟩, .string ⟨#[]⟩, .slice none 0 0] 28)) hn h24
  clear h hn h24
  go_enter Tryz.func74, Tryz.ntmps74
  go_wp2_with (first
    | (go_at_call 85; refine BC.mono ?_; rintro ee w1 ⟨rfl, hk1⟩)
    | fail)
  exact ⟨rfl, rfl, (((Kept.refl _ _).alloc _).trans hk1 (fun _ _ h => h))⟩
set_option maxRecDepth 100000 in
set_option maxHeartbeats 8000000 in
theorem plainR_walk (w0 : World) (hOf : OfP8 w0) {w : World} {G e n o : Nat} {ws : List Wd} {ao : Option Addr} {cp : Nat} (hw : Kept (fun _ => False) w0 w) (hG : w0.heap.size ≤ G) (h : RdW w G e ws n o ao cp) (hne : ws ≠ []) (hsz : ∀ q ∈ ws, q.1.length ≤ 1000000) (hn : n + 1 ≤ 24) (r : Res) (hrr : finF ((ws.take (psize ws)).map Prod.fst) (placeW e ws) (n + 1) (ws.drop (psize ws)) = r) :
    Calls Tryz.prog 74 #[.pointer (some ⟨G, 0, none⟩)] w (ReadP w G e o r) := by
  have HRR := Lib.hid hrr
  clear hrr
  have hlt := h.box.lt
  have BC := beginR_yes (h.alloc (.cells #[.int .u8 0, .string ⟨#[]⟩, .int .u8 0, .int .i64 0, .string ⟨#[]⟩, .string ⟨#[]⟩, .slice none 0 0] 28)) hn
  obtain ⟨hp1, hp2, hp3⟩ := psize_pos ws hne
  have HB0 := Lib.hid (Box.made w 28 #[.int .u8 0, .string ⟨#[]⟩, .int .u8 0, .int .i64 0, .string ⟨#[]⟩, .string ⟨#[]⟩, .slice none 0 0])
  have HW := Lib.hid hw
  have HG := Lib.hid hG
  obtain ⟨i0, hi, hz0, hz1, hz2⟩ := info_parts info_str
  have hlw := h.few
  obtain ⟨k, hk⟩ : ∃ k, k = psize ws := ⟨_, rfl⟩
  have HKP := Lib.hid hk
  rw [← hk] at hp1 hp2 hp3
  have hts := fun wx => take_run ao ws.length cp k (by have := h.room; omega) wx
  have HO := Lib.hid hOf
  have HSZ := Lib.hid hsz
  have hroom := h.room
  clear h hk hn hne hw hG hOf hsz
  go_enter Tryz.func74, Tryz.ntmps74
  go_wp2_with (first
    | (go_at_call 85; refine BC.mono ?_; rintro ee w1 ⟨rfl, hr1, hk1⟩)
    | fail)
  have HR1 := Lib.hid hr1
  have HK1 := Lib.hid (((Kept.refl (fun b => b = G) w).alloc (.cells #[.int .u8 0, .string ⟨#[]⟩, .int .u8 0, .int .i64 0, .string ⟨#[]⟩, .string ⟨#[]⟩, .slice none 0 0] 28)).trans hk1 (fun _ _ h => h))
  have HB1 := Lib.hid (hk1.box HB0.out (by omega))
  have PS := fun W (hk : Kept (fun _ => False) w1 W) => sizeR_walk (hr1.keep hk (fun _ _ h => h)) HSZ.out
  rw [← HKP.out] at PS
  have c0 := hr1.box.cell 0
  have c0' : w1.drew.cell? ⟨G, 0, none⟩ = some (.slice ao ws.length cp) := c0
  have hsz1 := hk1.size
  simp only [World.size_alloc] at hsz1
  clear c0 hr1 hk1 HB0 BC
  go_region_with ((first
    | (go_at_call 89; refine (PS _ (by repeat' (first | exact Kept.refl _ _ | refine Kept.drewN ?_ _ | refine Kept.drew ?_))).mono ?_; rintro ee w2 ⟨rfl, hk2⟩; have HK2 := Lib.hid (((Kept.refl (fun _ => False) w1).drew).trans hk2 (fun _ _ h => h)); have c02 : w2.cell? ⟨G, 0, none⟩ = some (.slice ao ws.length cp) := (hk2.cell (p := ⟨G, 0, none⟩) (by have := HR1.out.box.lt; simpa using this) (fun h => h)).trans c0'; clear hk2)
    | fail))
  all_goals
    have HR2 := Lib.hid (HR1.out.keep HK2.out (fun _ _ h => h))
    have HB2 := Lib.hid (HK2.out.box HB1.out (fun h => h))
    have HKw2 := Lib.hid (HK1.out.trans HK2.out (fun _ _ h => h.elim))
    have hsz2 := HK2.out.size
    clear c0' c02 PS HK2 hts
    go_wp2_with fail
    go_simp

    go_loopw [3, 18] (fun v3 v18 wr => ∃ (i : Nat) (vt : Value), v18 = .int .i64 (i : Int) ∧ v3 = vt ∧ i ≤ k ∧ Hid (wr.ownsRow (w.heap.size + 1) 9 1 vt i (cellsS (txtB (ws.take i)))) ∧ Hid (RdW wr G e ws (n + 1) o ao cp) ∧ Hid (Box wr w.heap.size 28 #[.int .u8 0, .string ⟨#[]⟩, .int .u8 0, .int .i64 0, .string ⟨#[]⟩, .string ⟨#[]⟩, .slice none 0 0]) ∧ Hid (Kept (fun b => b = G) w wr)) (fun _ v18 _ => k - (intOf v18).toNat)
    case atStart => exact ⟨0, _, rfl, rfl, Nat.zero_le _, Lib.hid (World.ownsRow_nil _ _ _ _), HR2, HB2, HKw2⟩
    case round =>
      obtain ⟨i, vt, rfl, hvt, hi', HT, HR, HB, HK⟩ := hrel
      replace hvt := hvt.symm
      subst hvt
      rename World => wr
      obtain ⟨a3, c3, e3⟩ := own_form HT.out
      subst e3
      have hszr := HK.out.size
      by_cases hlt : i < k
      · obtain ⟨q, hq⟩ : ∃ q, ws[i]? = some q := ⟨_, List.getElem?_eq_getElem (by omega)⟩
        obtain ⟨g, off, rfl, hg, d0, d1⟩ := HR.out.words i q hq
        have HTT := Lib.hid (txtB_take hq)
        have hi0 : (0 : Int) ≤ (i : Int) := by omega
        have hiI : (i : Int) < (k : Int) := by omega
        obtain ⟨qt, qp⟩ := q
        dsimp only at d0 d1 HTT
        obtain ⟨tb, htb⟩ : ∃ tb : ByteArray, tb = ⟨qt.toArray⟩ := ⟨_, rfl⟩
        rw [← htb] at d0 HTT
        have HBw := Lib.hid (Box.made wr 91 #[.string tb, .int .i64 (qp : Int)])
        have HT2 := Lib.hid ((HT.out.alloc (.cells #[.string tb, .int .i64 (qp : Int)] 91)).alloc (.cells #[.string tb] 9))
        clear hq htb
        go_wp2_with (first
          | (at_builtin; (refine wpList_append_own_at _ rfl _ _ 32 rfl (w.heap.size + 1) 9 i0 (.string ⟨#[]⟩) 1 16 Tryz.underlying32 hi hz0 hz1 hz2 rfl (by decide) _ _ _ rfl HT2.out ⟨wr.heap.size + 1, 0, none⟩ 1 1 (cellsS [tb]) rfl rfl (one_new8g _ _ _ _ (by simp)) (cellsS_one _) (by unfold maxLen; omega) (by omega) (by simp; omega) ?_; intro v1 w9 hown9 hgrow9 _ _; have HK9 := Lib.hid ((((Kept.refl (fun b => w.heap.size + 1 ≤ b) wr).alloc (.cells #[.string tb, .int .i64 (qp : Int)] 91)).alloc (.cells #[.string tb] 9)).grown hgrow9 (fun j hj => .inl (HT.out.lt j hj).1)); have HT9 := Lib.hid hown9; clear hown9 hgrow9))
          | fail)
        go_roundw
        case rel => exact ⟨i + 1, _, by go_num, rfl, by omega, Lib.hid (by rw [HTT.out]; have h := HT9.out; simpa [cellsS] using h), Lib.hid (HR.out.keep HK9.out (fun j hj h => by omega)), Lib.hid (HK9.out.box HB.out (by omega)), Lib.hid (HK.out.trans HK9.out (fun j hj h => by omega))⟩
        case measure => simp [intOf]; omega
      · obtain rfl : i = k := by omega
        have hge : ¬ (i : Int) < (i : Int) := by omega
        have hlx : (txtB (ws.take i)).length = i := by simp; omega
        have HS := Lib.hid (show StrS wr (.slice a3 i c3) (txtB (ws.take i)) from by
          have h := HT.out
          have e : World.ownsRow wr (w.heap.size + 1) 9 1 (.slice a3 i c3) (txtB (ws.take i)).length (cellsS (txtB (ws.take i))) := by rw [hlx]; exact h
          have h2 := own_strs e
          exact h2)
        have OC := HO.out (.slice a3 i c3) (txtB (ws.take i)) wr (HW.out.trans HK.out (fun j hj h => by have := HG.out; omega)) HS.out (fun u hu => by
          obtain ⟨q, hq, rfl⟩ := List.mem_map.1 hu
          have := HSZ.out q (List.mem_of_mem_take hq)
          show q.1.toArray.size ≤ _
          simp; exact this)
        rw [txtB_texts] at OC
        have HFF := Lib.hid (show r = (match Dep.ofD ((ws.take i).map Prod.fst) with | some d => .ok (.mk 1 d [], n + 1, ws.drop i) | none => .error (placeW e ws, 4)) from by rw [← HRR.out, ← HKP.out]; rfl)
        have hmd : ∀ d, Dep.ofD ((ws.take i).map Prod.fst) = some d → d.op < 256 := fun d hd => ofD_op hd
        generalize Dep.ofD ((ws.take i).map Prod.fst) = od at *
        cases od with
        | none =>
          simp only [ofV] at OC
          clear hmd hlx
          go_wp2_with (first
            | (go_at_call 90; refine OC.mono ?_; rintro ee w5 ⟨rfl, hk5⟩; have HK5 := Lib.hid hk5; have WR := wrongR_walk ((HR.out.keep hk5 (fun _ _ h => h)).alloc (.cells #[.string ⟨#[]⟩, .int .u8 0, .int .i64 0, .string ⟨#[]⟩, .string ⟨#[]⟩] 25)) 4; clear hk5)
            | (go_at_call 50; refine WR.mono ?_; rintro ee w6 ⟨rfl, hk6⟩)
            | fail)
          exact ⟨rfl, ReadP.err HFF.out (((HK.out.trans HK5.out (fun _ _ h => h.elim)).alloc _).trans hk6 (fun _ _ h => h.elim))⟩
        | some d =>
          have hdo := hmd d rfl
          simp only [ofV] at OC
          clear hmd hlx
          obtain ⟨dn, dop, ⟨de, dv, dr⟩⟩ := d
          obtain ⟨nb, hnb⟩ : ∃ nb : ByteArray, nb = ⟨dn.toArray⟩ := ⟨_, rfl⟩
          obtain ⟨vb, hvb⟩ : ∃ vb : ByteArray, vb = ⟨dv.toArray⟩ := ⟨_, rfl⟩
          obtain ⟨rb, hrb⟩ : ∃ rb : ByteArray, rb = ⟨dr.toArray⟩ := ⟨_, rfl⟩
          dsimp only at OC hdo
          rw [← hnb, ← hvb, ← hrb] at OC
          have HNB := Lib.hid hnb
          have HVB := Lib.hid hvb
          have HRB := Lib.hid hrb
          clear hnb hvb hrb
          go_wp2_with (first
            | (go_at_call 90; refine OC.mono ?_; rintro ee w5 ⟨rfl, hk5⟩; have HK5 := Lib.hid (((HK.out.trans hk5 (fun _ _ h => h.elim)).alloc (.cells #[.string nb, .int .u8 (dop : Int), .int .i64 de, .string vb, .string rb] 25))); have SC := fun z hz => skipR_walk ((HR.out.keep hk5 (fun _ _ h => h)).alloc (.cells #[.string nb, .int .u8 (dop : Int), .int .i64 de, .string vb, .string rb] 25)) i z hz hp2; have HBd := Lib.hid (Box.made w5 25 #[.string nb, .int .u8 (dop : Int), .int .i64 de, .string vb, .string rb]); have HB5 := Lib.hid ((hk5.box HB.out (fun h => h)).after_alloc (.cells #[.string nb, .int .u8 (dop : Int), .int .i64 de, .string vb, .string rb] 25)); have hsz5 := hk5.size; clear hk5)
            | (go_at_call 86; refine (SC _ rfl).mono ?_; rintro ee w6 ⟨rfl, hr6, hk6⟩; have HBd6 := Lib.hid (hk6.box HBd.out (by omega)); have HB6 := Lib.hid (hk6.box HB5.out (by omega)); have d0 := HBd6.out.cell 0; have d1 := HBd6.out.cell 1; have d2 := HBd6.out.cell 2; have d3 := HBd6.out.cell 3; have d4 := HBd6.out.cell 4; have z0 := HB6.out.cell 0; have z1 := HB6.out.cell 1; have z2 := HB6.out.cell 2; have z3 := HB6.out.cell 3; have z4 := HB6.out.cell 4; have z5 := HB6.out.cell 5; have z6 := HB6.out.cell 6; have y0 := HB6.out.free 0; have y1 := HB6.out.free 1; have y2 := HB6.out.free 2; have y3 := HB6.out.free 3; have y4 := HB6.out.free 4; have y5 := HB6.out.free 5; have y6 := HB6.out.free 6)
            | fail)
          have hb7 := seven_box HB6.out (.int .u8 1) (.string nb) (.int .u8 (dop : Int)) (.int .i64 de) (.string vb) (.string rb) (.slice none 0 0)
          have hk7 := seven_kept (S := fun b => b = w.heap.size) (Kept.refl _ w6) (g := w.heap.size) (.inl rfl) (.int .u8 1) (.string nb) (.int .u8 (dop : Int)) (.int .i64 de) (.string vb) (.string rb) (.slice none 0 0)
          exact bodyPost_ret (copy_result rfl _ _ w.heap.size _ rfl hb7 rfl) rfl (ReadP.ok HFF.out (by rw [HNB.out, HVB.out, HRB.out]; exact richN_atom hdo) (hr6.keep hk7 (fun j hj h => by have h2 : j = w.heap.size := h; omega)) ((HK5.out.trans hk6 (fun _ _ h => h)).trans hk7 (fun j hj h => by have h2 : j = w.heap.size := h; omega)))
end Go.Proofs.YtlagnebgoclaeaaGreatDoor
