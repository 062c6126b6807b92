/-
  The walks over the program's own text of layer 8: words, Words, Whole, Show. The walk over the document's Copy (layer 8). Small facts that both readers of layer 8 use. Nothing of the program is named here but its types. Conditions: as each theorem states.
-/
import Derived.Test.YtoebokgpdkklmaaGreatDoorK21
import Derived.Test.YtoebokgpdkklmaaGreatDoorK08
import Derived.Test.YtoebokgpdkklmaaGreatDoorK09
import Derived.Deep.RegionLaw
import Derived.Test.YtoebokgpdkklmaaGreatDoorK15
namespace Go.Proofs.YtoebokgpdkklmaaGreatDoor
open Go.RowKit Rich

/-- What the program's Words (layer 6) answers, in worlds that keep what w0 has. -/
def WordsP8 (w0 : World) : Prop := ∀ (d : Dep.D) (w : World), Dep.mayD d = true → d.op < 256 → Kept (fun _ => False) w0 w →
  Calls Tryz.prog 30 #[.agg #[.string ⟨d.name.toArray⟩, .int .u8 (d.op : Int), .int .i64 d.evr.epoch, .string ⟨d.evr.ver.toArray⟩, .string ⟨d.evr.rel.toArray⟩]] w fun e w' => (∃ v, e = .returned (.tuple #[v, .int .i64 0]) ∧ StrS w' v (bytesV (Dep.wordsD d))) ∧ Kept (fun _ => False) w w'
theorem bytes_texts : ∀ l : List ByteArray, bytesV (textsB l) = l
  | [] => rfl
  | a :: l => by
    have := bytes_texts l
    simp only [bytesV, textsB, List.map_cons] at this ⊢
    rw [this]
theorem wordsP8_of {w0 : World} (hL : LibW w0) (hW : NotW w0) : WordsP8 w0 := by
  intro d w hm ho hk
  have hs := name_sizes hm
  obtain ⟨n, o, ⟨ep, v, r⟩⟩ := d
  refine (words_walk hL hW ⟨n.toArray⟩ o ho ep ⟨v.toArray⟩ ⟨r.toArray⟩ (by have := hs.1; show n.toArray.size ≤ _; simp at this ⊢; omega) (by have := hs.2.1; show v.toArray.size ≤ _; simp at this ⊢; omega) (by have := hs.2.2; show r.toArray.size ≤ _; simp at this ⊢; omega) w hk).mono fun e w' ⟨h1, h2⟩ => ⟨?_, h2⟩
  rcases h1 with ⟨h3, _⟩ | ⟨_, va, h4, h5⟩
  · exact absurd (show Dep.mayD ⟨n, o, ⟨ep, v, r⟩⟩ = false from h3) (by rw [hm]; simp)
  · refine ⟨va, h4, ?_⟩
    have e1 : bytesV (Dep.wordsD ⟨n, o, ⟨ep, v, r⟩⟩) = wordsB ⟨n.toArray⟩ o ep ⟨v.toArray⟩ ⟨r.toArray⟩ := by
      have := wordsB_texts ⟨n.toArray⟩ o ep ⟨v.toArray⟩ ⟨r.toArray⟩
      rw [show Dep.wordsD ⟨n, o, ⟨ep, v, r⟩⟩ = textsB (wordsB ⟨n.toArray⟩ o ep ⟨v.toArray⟩ ⟨r.toArray⟩) from this.symm]
      exact bytes_texts _
    rw [e1]
    exact own_strs h5
theorem box_grown_ne {w w1 : World} {g base n size : Nat} {e t : TypeId} {v : Value} {xs : List Value} {cs : Array Value} (hb : Box w g t cs) (ho : w.ownsRow base e size v n xs) (hg : w.grownBy w1 v.ownBlock) (hne : e ≠ t) : Box w1 g t cs :=
  (hg.block g hb.lt (fun e => Box.of_own_ne hb ho hne g e.symm rfl)).trans hb
theorem one_new8g (W : World) (g : Nat) (t : TypeId) (s : ByteArray) (hg : g = W.heap.size) : ∀ (j : Nat) u, (cellsS [s])[j]? = some u → (W.alloc (.cells #[.string s] t)).cell? ((⟨g, 0, none⟩ : Addr).add j) = some u := by
  subst hg
  exact one_new8 W t s
theorem okN_less {k n i : Nat} (h : okN k n = true) (h1 : 1 ≤ i) (hi : i < n) : okN k (i + 1) = true := by
  unfold okN at h ⊢
  split at h
  · rename_i hk; rw [if_pos hk]; simp; omega
  · rename_i hk; rw [if_neg hk]
    split at h
    · rename_i hk2; rw [if_pos hk2]; simp at h ⊢; omega
    · rename_i hk2; rw [if_neg hk2]
      split at h
      · rename_i hk3; rw [if_pos hk3]; simp at h ⊢; omega
      · cases h
set_option maxRecDepth 100000 in
set_option maxHeartbeats 8000000 in
theorem wordsP_main (w0 : World) (hD : WordsP8 w0) (hRow : RowsW w0) : ∀ (x : R) (v : Value) (w : World), Kept (fun _ => False) w0 w → RichS w x v → Rich.part x = true → count x ≤ 24 →
    Calls Tryz.prog 19 #[v] w fun e w' => (∃ va, e = .returned va ∧ StrS w' va (bytesV (wordsR x))) ∧ Kept (fun _ => False) w w' := by
  refine R.ind fun k d l ih v w hw hr hp hc => ?_
  rw [RichS] at hr
  obtain ⟨ao, cp, rfl, hk, ho, hA⟩ := hr
  obtain ⟨i0, hi, hz0, hz1, hz2⟩ := info_parts info_str
  have HA := Lib.hid hA
  have HW := Lib.hid hw
  have HB := Lib.hid (Box.made w 28 (richA k d (.slice ao l.length cp)))
  by_cases hk1 : k = 1
  · subst hk1
    have hm : Dep.mayD d = true := by rw [Rich.part, if_pos rfl, Bool.and_eq_true] at hp; exact hp.1
    have DC := hD d (w.alloc (.cells (richA 1 d (.slice ao l.length cp)) 28)) hm ho (hw.alloc _)
    have HF := Lib.hid (show wordsR (.mk 1 d l) = Dep.wordsD d by rw [wordsR, if_pos rfl])
    clear ih hA hw hp hc hm hD hRow
    go_enter Tryz.func19, Tryz.ntmps19
    go_wp2_with (first
      | (go_at_call 30; refine DC.mono ?_; rintro e w5 ⟨⟨va, rfl, hs5⟩, hk5⟩)
      | fail)
    go_ret
    exact ⟨⟨_, rfl, by rw [HF.out]; exact hs5⟩, ((Kept.refl _ _).alloc _).trans hk5 (fun _ _ h => h)⟩
  · obtain ⟨hokn, hall, hdz⟩ := (part_other hk1).1 hp
    have HOK := Lib.hid hokn
    have hkk := okN_kind hokn
    rw [count] at hc
    have hll := counts_len l
    have HI := Lib.hid ih
    have HF := Lib.hid (show wordsR (.mk k d l) = [40] :: (wordsL k 0 l ++ [[41]]) by rw [wordsR, if_neg hk1])
    have HAl := Lib.hid hall
    have HC := Lib.hid (show counts l ≤ 23 by omega)
    have HRW := Lib.hid hRow
    have hlI : l.length ≤ 23 := by omega
    have hkb : ((k : Int) == 1) = false := beq_eq_false_iff_ne.2 (by omega)
    clear ih hA hw hp hc hall hll hdz hokn hRow hD
    go_enter Tryz.func19, Tryz.ntmps19
    go_wp2_with fail
    have HR0 := Lib.hid (show ((w.alloc (.cells (richA k d (.slice ao l.length cp)) 28)).alloc (.cells #[.string ⟨#[40]⟩] 9)).ownsRow (w.heap.size + 1) 9 1 (.slice (some ⟨w.heap.size + 1, 0, none⟩) 1 1) 1 (cellsS (bytesV [[40]])) from by
      have h := Box.made (w.alloc (.cells (richA k d (.slice ao l.length cp)) 28)) 9 #[.string ⟨#[40]⟩]
      rw [World.size_alloc] at h
      exact own_one8 (Nat.le_refl _) h)
    go_loopw [5, 22] (fun v5 v6 wr => ∃ (i : Nat) (vt : Value) (L : List (List UInt8)), v6 = .int .i64 (i : Int) ∧ v5 = vt ∧ i ≤ l.length ∧ Hid (L = [40] :: wordsL k 0 (l.take i)) ∧ Hid (wr.ownsRow (w.heap.size + 1) 9 1 vt L.length (cellsS (bytesV L))) ∧ Hid (Box wr w.heap.size 28 (richA k d (.slice ao l.length cp))) ∧ Hid (Kept (fun _ => False) w wr)) (fun _ v6 _ => l.length - (intOf v6).toNat)
    case atStart => exact ⟨0, _, [[40]], rfl, rfl, Nat.zero_le _, Lib.hid (by rw [List.take_zero, wordsL]), HR0, Lib.hid (HB.out.after_alloc _), Lib.hid (((Kept.refl _ _).alloc _).alloc _)⟩
    case round =>
      obtain ⟨i, vt, L, rfl, hvt, hi', HL, HR, HBr, HK⟩ := hrel
      replace hvt := hvt.symm
      subst hvt
      rename World => wr
      obtain ⟨a3, c3, e3⟩ := own_form HR.out
      subst e3
      have hLn : L.length ≤ 93 := by
        have h1 := wordsL_len (l.take i) (allP_take_yes fun y hy => allP_at HAl.out (List.mem_of_mem_take hy)) k 0
        have h2 := counts_take_le l i
        have := HC.out
        rw [HL.out]
        simp only [List.length_cons]
        omega
      by_cases hlt : i < l.length
      · obtain ⟨x, hx⟩ : ∃ x, l[i]? = some x := ⟨_, List.getElem?_eq_getElem hlt⟩
        obtain ⟨b, off, ao', cp', rfl, hb, hrx, h0, h1, h2, h3, h4, h5, h6⟩ := HA.out.part hx
        have hxm := List.mem_of_getElem? hx
        have hpx := allP_at HAl.out hxm
        have hcx : count x ≤ 24 := by
          have := counts_take hx
          have := counts_take_le l (i + 1)
          have := HC.out
          omega
        have PC := fun W (hk : Kept (fun _ => False) w W) => HI.out x hxm _ W (HW.out.trans hk (fun _ _ h => h)) (RichS.kept hk x _ hrx) hpx hcx
        have hX8 := wordsR_len x hpx
        obtain ⟨X, hX⟩ : ∃ X, X = bytesV (wordsR x) := ⟨_, rfl⟩
        have hXl : X.length ≤ 8000 := by rw [hX]; simp; omega
        obtain ⟨y0, hy0⟩ : ∃ y0, X[0]? = some y0 := ⟨_, List.getElem?_eq_getElem (by rw [hX]; have := words_some x; cases hq : wordsR x with | nil => exact absurd hq this | cons a q => simp)⟩
        have HY0 := Lib.hid hy0
        have HX := Lib.hid hX
        rw [← hX] at PC
        have hLn1 := wordsL_take k l 0 i x hx
        rw [Nat.zero_add] at hLn1
        have HLn := Lib.hid (show L ++ (sepL k i ++ wordsR x) = [40] :: wordsL k 0 (l.take (i + 1)) by rw [hLn1, HL.out]; rfl)
        have HAS := Lib.hid (fun (h1 : 1 ≤ i) => ahead_sep ⟨hkk.1, hkk.2.1⟩ h1 (okN_less HOK.out h1 hlt) (by omega))
        have AC := fun W (hW : Kept (fun _ => False) w W) => aheadP_walk k i hk W (HRW.out.kept (HW.out.trans hW (fun _ _ h => h)))
        have hi0 : (0 : Int) ≤ (i : Int) := by omega
        have hiI : (i : Int) < (l.length : Int) := by omega
        have d0 := (HK.out.cell (p := ⟨b, off + i * 7, none⟩) hb (fun h => h)).trans h0
        have d1 := (HK.out.cell (p := ⟨b, off + i * 7 + 1, none⟩) hb (fun h => h)).trans h1
        have d2 := (HK.out.cell (p := ⟨b, off + i * 7 + 2, none⟩) hb (fun h => h)).trans h2
        have d3 := (HK.out.cell (p := ⟨b, off + i * 7 + 3, none⟩) hb (fun h => h)).trans h3
        have d4 := (HK.out.cell (p := ⟨b, off + i * 7 + 4, none⟩) hb (fun h => h)).trans h4
        have d5 := (HK.out.cell (p := ⟨b, off + i * 7 + 5, none⟩) hb (fun h => h)).trans h5
        have d6 := (HK.out.cell (p := ⟨b, off + i * 7 + 6, none⟩) hb (fun h => h)).trans h6
        have b6 := HBr.out.cell 6
        obtain ⟨kx, dx, lx⟩ := x
        dsimp only [R.kind, R.dep, R.args] at d0 d1 d2 d3 d4 d5 d6
        have HBa := Lib.hid (Box.made wr 28 (richA kx dx (.slice ao' lx.length cp')))
        have HBr := Lib.hid (HBr.out.after_alloc (.cells (richA kx dx (.slice ao' lx.length cp')) 28))
        have HR := Lib.hid (HR.out.alloc (.cells (richA kx dx (.slice ao' lx.length cp')) 28))
        have HK := Lib.hid (HK.out.alloc (.cells (richA kx dx (.slice ao' lx.length cp')) 28))
        have b0 := HBr.out.cell 0
        clear hx hrx h0 h1 h2 h3 h4 h5 h6 hxm hpx hcx hX8 hX hy0 hLn1
        by_cases hz : i = 0
        · have HS := Lib.hid (show sepL k i = [] by unfold sepL; rw [if_pos hz])
          rw [HS.out] at HLn
          have hi1 : ¬ (0 : Int) < (i : Int) := by omega
          clear hz
          go_wp2_with (first
            | (go_at_call 19; refine (PC _ HK.out).mono ?_; rintro e w5 ⟨⟨va, rfl, hs5⟩, hk5⟩; have HBr := Lib.hid (hk5.box HBr.out (fun h => h)); have HR := Lib.hid (hk5.owns HR.out (fun _ _ h => h)); have HK := Lib.hid (Kept.trans HK.out hk5 (fun _ _ h => h)); obtain ⟨ao5, cp5, rfl, hc5⟩ := hs5; obtain ⟨ad, e5, _, _⟩ := hc5 0 y0 HY0.out; subst e5; have HC5 := Lib.hid hc5; clear hk5 hc5)
            | (at_builtin; (refine wpList_append_own_at _ rfl _ _ 32 rfl (w.heap.size + 1) 9 i0 (.string ⟨#[]⟩) 1 16 Tryz.underlying32 hi hz0 hz1 hz2 rfl (by decide) _ _ _ rfl HR.out ad X.length cp5 (cellsS X) rfl (by rw [cellsS_len, Nat.mul_one]) (cells_at8 HC5.out) (cellsS_one _) (by unfold maxLen; omega) (by omega) (by have := HK.out.size; have := HBr.out.lt; omega) ?_; intro v2 w2 hown2 hgrow2 _ _; have HBr := Lib.hid (box_grown8 HBr.out HR.out hgrow2 (by omega)); have HK := Lib.hid (HK.out.grown hgrow2 (fun j hj => .inr (Nat.le_trans (Nat.le_succ _) (HR.out.lt j hj).1))); have HR := Lib.hid hown2; clear hown2 hgrow2))
            | fail)
          go_roundw
          case rel => exact ⟨i + 1, _, L ++ ([] ++ wordsR (.mk kx dx lx)), by go_num, rfl, by omega, HLn, Lib.hid (by have h := HR.out; rw [HX.out] at h; simpa [bytesV, cellsS, Nat.add_assoc] using h), HBr, HK⟩
          case measure => simp [intOf]; omega
        · have hi1 : (0 : Int) < (i : Int) := by omega
          have HS := Lib.hid (show sepL k i = [aheadW k i] by unfold sepL; rw [if_neg hz, HAS.out (by omega)])
          rw [HS.out] at HLn
          clear hz HS HAS
          generalize aheadW k i = aw at *
          go_wp2_with (first
            | (go_at_call 19; refine (PC _ HK.out).mono ?_; rintro e w5 ⟨⟨va, rfl, hs5⟩, hk5⟩; have HBr := Lib.hid (hk5.box HBr.out (fun h => h)); have HR := Lib.hid (hk5.owns HR.out (fun _ _ h => h)); have HK := Lib.hid (Kept.trans HK.out hk5 (fun _ _ h => h)); obtain ⟨ao5, cp5, rfl, hc5⟩ := hs5; obtain ⟨ad, e5, _, _⟩ := hc5 0 y0 HY0.out; subst e5; have HC5 := Lib.hid hc5; clear hk5 hc5)
            | (at_builtin; (refine wpList_append_own_at _ rfl _ _ 32 rfl (w.heap.size + 1) 9 i0 (.string ⟨#[]⟩) 1 16 Tryz.underlying32 hi hz0 hz1 hz2 rfl (by decide) _ _ _ rfl HR.out ad X.length cp5 (cellsS X) rfl (by rw [cellsS_len, Nat.mul_one]) (cells_at8 HC5.out) (cellsS_one _) (by unfold maxLen; omega) (by omega) (by have := HK.out.size; have := HBr.out.lt; omega) ?_; intro v2 w2 hown2 hgrow2 _ _; have HBr := Lib.hid (box_grown8 HBr.out HR.out hgrow2 (by omega)); have HK := Lib.hid (HK.out.grown hgrow2 (fun j hj => .inr (Nat.le_trans (Nat.le_succ _) (HR.out.lt j hj).1))); have HR := Lib.hid hown2; clear hown2 hgrow2))
            | (go_at_call 31; refine (AC _ HK.out).mono ?_; rintro e w6 ⟨rfl, hww⟩; have hwx := Eq.symm hww; clear hww; subst hwx)
            | (at_builtin; (refine wpList_append_own_at _ rfl _ _ 32 rfl (w.heap.size + 1) 9 i0 (.string ⟨#[]⟩) 1 16 Tryz.underlying32 hi hz0 hz1 hz2 rfl (by decide) _ _ _ rfl (HR.out.alloc _) ⟨wr.heap.size + 1, 0, none⟩ 1 1 (cellsS [⟨aw.toArray⟩]) rfl rfl (one_new8g _ _ _ _ (by simp)) (cellsS_one _) (by unfold maxLen; omega) (by omega) (by have := HK.out.size; have := HBr.out.lt; simp at this ⊢; omega) ?_; intro v1 w1 hown1 hgrow1 _ _; have HBr := Lib.hid (box_grown8 (HBr.out.after_alloc _) (HR.out.alloc _) hgrow1 (by omega)); have HBa := Lib.hid (box_grown_ne (HBa.out.after_alloc _) (HR.out.alloc _) hgrow1 (by decide)); have HK := Lib.hid ((HK.out.alloc _).grown hgrow1 (fun j hj => .inr (Nat.le_trans (Nat.le_succ _) (HR.out.lt j hj).1))); have HR := Lib.hid hown1; have a0 := HBa.out.cell 0; have a1 := HBa.out.cell 1; have a2 := HBa.out.cell 2; have a3 := HBa.out.cell 3; have a4 := HBa.out.cell 4; have a5 := HBa.out.cell 5; have a6 := HBa.out.cell 6; clear hown1 hgrow1))
            | fail)
          go_roundw
          case rel => exact ⟨i + 1, _, L ++ ([aw] ++ wordsR (.mk kx dx lx)), by go_num, rfl, by omega, HLn, Lib.hid (by have h := HR.out; rw [HX.out] at h; simpa [bytesV, cellsS, Nat.add_assoc, Nat.add_comm, Nat.add_left_comm] using h), HBr, HK⟩
          case measure => simp [intOf]; omega
      · have hge : ¬ (i : Int) < (l.length : Int) := by omega
        have HLF := Lib.hid (show L ++ [[41]] = wordsR (.mk k d l) by
          rw [HF.out, HL.out, List.take_of_length_le (by omega)]; rfl)
        go_wp2_with (first
          | (at_builtin; (refine wpList_append_own_at _ rfl _ _ 32 rfl (w.heap.size + 1) 9 i0 (.string ⟨#[]⟩) 1 16 Tryz.underlying32 hi hz0 hz1 hz2 rfl (by decide) _ _ _ rfl (HR.out.alloc _) ⟨wr.heap.size, 0, none⟩ 1 1 (cellsS [⟨#[41]⟩]) rfl rfl (one_new8 _ _ _) (cellsS_one _) (by unfold maxLen; omega) (by omega) (by have := HK.out.size; have := HBr.out.lt; simp; omega) ?_; intro v1 w1 hown1 hgrow1 _ _; have HBr := Lib.hid (box_grown8 (HBr.out.after_alloc _) (HR.out.alloc _) hgrow1 (by omega)); have HK := Lib.hid ((HK.out.alloc _).grown hgrow1 (fun j hj => .inr (Nat.le_trans (Nat.le_succ _) (HR.out.lt j hj).1))); have HR := Lib.hid hown1; clear hown1 hgrow1))
          | fail)
        go_ret
        refine ⟨⟨_, rfl, ?_⟩, HK.out⟩
        have h := HR.out
        rw [← HLF.out]
        exact own_strs (by simpa [bytesV, cellsS] using h)
end Go.Proofs.YtoebokgpdkklmaaGreatDoor

namespace Go.Proofs.YtoebokgpdkklmaaGreatDoor
open Go.RowKit Rich

theorem info_rich8 : (Tryz.prog.info? 28).map (fun i => (i.zero, i.size, i.bytes)) = some (some (.agg #[.int .u8 0, .string ⟨#[]⟩, .int .u8 0, .int .i64 0, .string ⟨#[]⟩, .string ⟨#[]⟩, .slice none 0 0]), 7, 96) := by kernel_rfl
theorem wp_append_own8 {P : Program} {w : World} {o : Oper} {a : Act} {K : Act → World → Prop} {Q : Exit → Act → World → Prop} (s x : Operand) (t : TypeId)
    (ho : o.op = .call { callee := .builtin .append, args := #[s, x], argTypes := #[t, t] })
    (base : Nat) (e : TypeId) (i : TypeInfo) (z : Value) (size bytes : Nat) (ht : P.underlying t = some (.slice e)) (hi : P.info? e = some i) (hz : i.zero = some z)
    (hsize : i.size = size) (hby : i.bytes = bytes) (hzs : z.cells.size = size) (hsz : 0 < size)
    (v : Value) (n : Nat) (xs : List Value) (hs : a.eval s = v) (hown : w.ownsRow base e size v n xs)
    (ad : Addr) (m c : Nat) (news : List Value) (hx : a.eval x = .slice (some ad) m c) (hl : news.length = m * size) (hnews : ∀ j u, news[j]? = some u → w.cell? (ad.add j) = some u) (h1 : ∀ u ∈ news, u.oneCell' = true)
    (h63 : n + m ≤ maxLen) (hbytes : (n + m) * bytes ≤ 140737488355328) (hbase : base ≤ w.heap.size)
    (h : ∀ v' w', w'.ownsRow base e size v' (n + m) (xs ++ news) → w.grownBy w' v.ownBlock → (v'.ownBlock = v.ownBlock ∨ v'.ownBlock = some w.heap.size) → K (a.put o.dst v') w') : o.wp P a w K Q := by
  obtain ⟨v', w', hr, h2, h3, _, h5⟩ := run_append_own_at (P := P) w base t o.type e i z size bytes ht hi hz hsize hby hzs hsz v n xs hown ad m c news hl hnews h1 h63 hbytes hbase
  unfold Oper.wp execOp
  simp only [ho, resolve, invoke, builtin, Sem.run_bind, Sem.run_pure, Result.andThen_ok, List.map_toArray, List.map_cons, List.map_nil, hs, hx, hr]
  exact h v' w' h2 h3 h5
theorem one_rich8 (W : World) (t : TypeId) (cs : Array Value) : ∀ (j : Nat) u, cs.toList[j]? = some u → (W.alloc (.cells cs t)).cell? ((⟨W.heap.size, 0, none⟩ : Addr).add j) = some u := by
  intro j u hj
  have h := (Box.made W t cs).cell j
  rw [show ((⟨W.heap.size, 0, none⟩ : Addr).add j) = ⟨W.heap.size, j, none⟩ by simp [Addr.add]; try omega, h]
  simpa using hj
/-- What a round leaves. -/
theorem copy_round8 {w wr w5 w9 : World} {e : TypeId} {k i : Nat} {d : Dep.D} {vt v' : Value} {cs zs : Array Value} {ps : List Pc} {p : Pc} {o : Obj}
    (HR : wr.ownsRow (w.heap.size + 3) e 7 vt i (cellsP ps)) (HBr : Box wr w.heap.size e cs) (HBz : Box wr (w.heap.size + 1) e zs) (HBo : Box wr (w.heap.size + 1 + 1) e (richA k d vt)) (HK : Kept (fun _ => False) w wr)
    (HD : ∀ q ∈ ps, Done8 (w.heap.size + 3) vt wr q) (hk5 : Kept (fun _ => False) wr.drew w5) (hv5 : RichN wr.drew.heap.size w5 p.1 (valP p))
    (hown : w9.ownsRow (w.heap.size + 3) e 7 v' (i + 1) (cellsP ps ++ (arrP p).toList)) (hg : (w5.alloc o).grownBy w9 vt.ownBlock) (hb : v'.ownBlock = vt.ownBlock ∨ v'.ownBlock = some (w5.alloc o).heap.size) :
    (w9.setCell ⟨w.heap.size + 1 + 1, 6, none⟩ v').ownsRow (w.heap.size + 3) e 7 v' (i + 1) (cellsP (ps ++ [p])) ∧ Box (w9.setCell ⟨w.heap.size + 1 + 1, 6, none⟩ v') w.heap.size e cs ∧ Box (w9.setCell ⟨w.heap.size + 1 + 1, 6, none⟩ v') (w.heap.size + 1) e zs ∧ Box (w9.setCell ⟨w.heap.size + 1 + 1, 6, none⟩ v') (w.heap.size + 1 + 1) e (richA k d v') ∧ Kept (fun _ => False) w (w9.setCell ⟨w.heap.size + 1 + 1, 6, none⟩ v') ∧ ∀ q ∈ ps ++ [p], Done8 (w.heap.size + 3) v' (w9.setCell ⟨w.heap.size + 1 + 1, 6, none⟩ v') q := by
  have K5 : Kept (fun _ => False) wr w5 := (Kept.drew (Kept.refl _ wr)).trans hk5 (fun _ _ h => h)
  have hlt := HBo.lt
  have h5 := K5.size
  have KS : Kept (fun b => b = w.heap.size + 1 + 1) w9 (w9.setCell ⟨w.heap.size + 1 + 1, 6, none⟩ v') := Kept.setCell (S := fun b => b = w.heap.size + 1 + 1) (Kept.refl _ w9) (.inl rfl) _
  have R5 := (K5.owns HR (fun _ _ h => h)).alloc o
  have g1 := box_grown8 ((K5.box HBr (fun h => h)).after_alloc o) R5 hg (by omega)
  have g2 := box_grown8 ((K5.box HBz (fun h => h)).after_alloc o) R5 hg (by omega)
  have g3 := box_grown8 ((K5.box HBo (fun h => h)).after_alloc o) R5 hg (by omega)
  have KW : Kept (fun b => vt.ownBlock = some b ∨ b = w.heap.size + 1 + 1) wr (w9.setCell ⟨w.heap.size + 1 + 1, 6, none⟩ v') :=
    (((K5.weaker (fun _ _ h => h.elim)).alloc o).grown hg (fun i hi => .inl (.inl hi))).trans KS (fun i _ h => .inr h)
  refine ⟨?_, KS.box g1 (by omega), KS.box g2 (by omega), ?_, HK.trans KW ?_, ?_⟩
  · rw [cellsP_app]
    simp only [cellsP, List.append_nil]
    exact KS.owns hown (fun i hi h => by have := (hown.lt i hi).1; omega)
  · exact g3.stored 6 v'
  · intro i hi h
    rcases h with h | h
    · have := (HR.lt i h).1; omega
    · omega
  · intro q hq
    rcases List.mem_append.1 hq with hq | hq
    · refine (HD q hq).step KW (by omega) ?_
      rcases hb with hb | hb
      · exact .inl hb
      · exact .inr ⟨_, by simp; omega, hb⟩
    · simp at hq
      subst hq
      refine ⟨w5, wr.heap.size, by omega, hv5, ((((Kept.refl _ w5)).alloc o).grown hg (fun i hi => .inl (HR.lt i hi).2)).trans KS (fun i _ h => by omega), fun g hgo => ?_⟩
      rcases hb with hb | hb
      · rw [hb] at hgo
        exact .inl (HR.lt g hgo).2
      · rw [hb] at hgo
        injection hgo with hgo
        simp at hgo
        omega
theorem copy_result {fn : Func} {p : Tmp} (h : fn.results = #[.cell p 28]) (tmps : Array Value) (W : World) (g : Nat) (cs : Array Value) (hp : tmps.getD p undef = .pointer (some ⟨g, 0, none⟩)) (hB : Box W g 28 cs) (hs : cs.size = 7) :
    (results fn tmps).run Tryz.prog W = .ok (.agg cs) W :=
  results_cell_row h tmps W g 28 cs (0, 0) _ hp hB Tryz.underlying28 rfl (by rw [hs]; kernel_rfl)
set_option maxRecDepth 100000 in
set_option maxHeartbeats 8000000 in
theorem copy8_walk : ∀ (x : R) (v : Value) (w : World), RichS w x v → count x ≤ 2000 →
    Calls Tryz.prog 7 #[v] w fun e w' => (∃ v', e = .returned v' ∧ RichN w.heap.size w' x v' ∧ ∃ vt ps, v' = richV x.kind x.dep vt ∧ ps.map Prod.fst = x.args ∧ w'.ownsRow (w.heap.size + 3) 28 7 vt x.args.length (cellsP ps) ∧ ∀ p ∈ ps, Done8 (w.heap.size + 3) vt w' p) ∧ Kept (fun _ => False) w w' := by
  refine R.ind fun k d l ih v w hr hc => ?_
  rw [RichS] at hr
  obtain ⟨ao, cp, rfl, hk, ho, hA⟩ := hr
  obtain ⟨i0, hi, hz0, hz1, hz2⟩ := info_parts info_rich8
  have hll := counts_len l
  rw [count] at hc
  have hlI : l.length ≤ 2000 := by omega
  have HC := Lib.hid (show counts l ≤ 2000 by omega)
  have HA := Lib.hid hA
  have HI := Lib.hid ih
  have HKO := Lib.hid (And.intro hk ho)
  clear hA ih hc hll hk ho
  go_enter Tryz.func7, Tryz.ntmps7
  go_wp2_with fail
  have HB0 := Lib.hid (show Box (((w.alloc (.cells (richA k d (.slice ao l.length cp)) 28)).alloc (.cells #[.int .u8 0, .string ⟨#[]⟩, .int .u8 0, .int .i64 0, .string ⟨#[]⟩, .string ⟨#[]⟩, .slice none 0 0] 28)).alloc (.cells (richA k d (.slice none 0 0)) 28)) w.heap.size 28 (richA k d (.slice ao l.length cp)) from ((Box.made w 28 (richA k d (.slice ao l.length cp))).after_alloc _).after_alloc _)
  have HBz0 := Lib.hid (show Box (((w.alloc (.cells (richA k d (.slice ao l.length cp)) 28)).alloc (.cells #[.int .u8 0, .string ⟨#[]⟩, .int .u8 0, .int .i64 0, .string ⟨#[]⟩, .string ⟨#[]⟩, .slice none 0 0] 28)).alloc (.cells (richA k d (.slice none 0 0)) 28)) (w.heap.size + 1) 28 #[.int .u8 0, .string ⟨#[]⟩, .int .u8 0, .int .i64 0, .string ⟨#[]⟩, .string ⟨#[]⟩, .slice none 0 0] from by
    have h := (Box.made (w.alloc (.cells (richA k d (.slice ao l.length cp)) 28)) 28 #[.int .u8 0, .string ⟨#[]⟩, .int .u8 0, .int .i64 0, .string ⟨#[]⟩, .string ⟨#[]⟩, .slice none 0 0]).after_alloc (.cells (richA k d (.slice none 0 0)) 28)
    rw [World.size_alloc] at h
    exact h)
  have HBo0 := Lib.hid (show Box (((w.alloc (.cells (richA k d (.slice ao l.length cp)) 28)).alloc (.cells #[.int .u8 0, .string ⟨#[]⟩, .int .u8 0, .int .i64 0, .string ⟨#[]⟩, .string ⟨#[]⟩, .slice none 0 0] 28)).alloc (.cells (richA k d (.slice none 0 0)) 28)) (w.heap.size + 1 + 1) 28 (richA k d (.slice none 0 0)) from by
    have h := Box.made ((w.alloc (.cells (richA k d (.slice ao l.length cp)) 28)).alloc (.cells #[.int .u8 0, .string ⟨#[]⟩, .int .u8 0, .int .i64 0, .string ⟨#[]⟩, .string ⟨#[]⟩, .slice none 0 0] 28)) 28 (richA k d (.slice none 0 0))
    rw [World.size_alloc, World.size_alloc] at h
    exact h)
  have HK0 := Lib.hid (show Kept (fun _ => False) w (((w.alloc (.cells (richA k d (.slice ao l.length cp)) 28)).alloc (.cells #[.int .u8 0, .string ⟨#[]⟩, .int .u8 0, .int .i64 0, .string ⟨#[]⟩, .string ⟨#[]⟩, .slice none 0 0] 28)).alloc (.cells (richA k d (.slice none 0 0)) 28)) from (((Kept.refl _ w).alloc _).alloc _).alloc _)
  generalize (((w.alloc (.cells (richA k d (.slice ao l.length cp)) 28)).alloc (.cells #[.int .u8 0, .string ⟨#[]⟩, .int .u8 0, .int .i64 0, .string ⟨#[]⟩, .string ⟨#[]⟩, .slice none 0 0] 28)).alloc (.cells (richA k d (.slice none 0 0)) 28)) = W3 at *
  go_loopw [4] (fun v4 wr => ∃ (i : Nat) (vt : Value) (ps : List Pc), v4 = .int .i64 (i : Int) ∧ i ≤ l.length ∧ Hid (ps.map Prod.fst = l.take i) ∧ Hid (wr.ownsRow (w.heap.size + 3) 28 7 vt i (cellsP ps)) ∧ Hid (Box wr w.heap.size 28 (richA k d (.slice ao l.length cp))) ∧ Hid (Box wr (w.heap.size + 1) 28 #[.int .u8 0, .string ⟨#[]⟩, .int .u8 0, .int .i64 0, .string ⟨#[]⟩, .string ⟨#[]⟩, .slice none 0 0]) ∧ Hid (Box wr (w.heap.size + 1 + 1) 28 (richA k d vt)) ∧ Hid (Kept (fun _ => False) w wr) ∧ Hid (∀ p ∈ ps, Done8 (w.heap.size + 3) vt wr p)) (fun v4 _ => l.length - (intOf v4).toNat)
  case atStart => exact ⟨0, .slice none 0 0, [], rfl, Nat.zero_le _, Lib.hid (by simp), Lib.hid (World.ownsRow_nil _ _ _ _), HB0, HBz0, HBo0, HK0, Lib.hid (by simp)⟩
  case round =>
    obtain ⟨i, vt, ps, rfl, hi', HP, HR, HBr, HBz, HBo, HK, HD⟩ := hrel
    rename World => wr
    obtain ⟨a3, c3, e3⟩ := own_form HR.out
    subst e3
    have b6 := HBr.out.cell 6
    have o6 := HBo.out.cell 6
    by_cases hlt : i < l.length
    · obtain ⟨x, hx⟩ : ∃ x, l[i]? = some x := ⟨_, List.getElem?_eq_getElem hlt⟩
      obtain ⟨b, off, ao', cp', rfl, hb, hrx, h0, h1, h2, h3, h4, h5, h6⟩ := HA.out.part hx
      have hxm := List.mem_of_getElem? hx
      have hcx : count x ≤ 2000 := by
        have := counts_take hx
        have := counts_take_le l (i + 1)
        have := HC.out
        omega
      have PC := fun W (hk : Kept (fun _ => False) w W) => HI.out x hxm _ W (RichS.kept hk x _ hrx) hcx
      have HPx := Lib.hid (show l.take (i + 1) = l.take i ++ [x] by rw [List.take_add_one, hx]; rfl)
      have d0 := (HK.out.cell (p := ⟨b, off + i * 7, none⟩) hb (fun h => h)).trans h0
      have d1 := (HK.out.cell (p := ⟨b, off + i * 7 + 1, none⟩) hb (fun h => h)).trans h1
      have d2 := (HK.out.cell (p := ⟨b, off + i * 7 + 2, none⟩) hb (fun h => h)).trans h2
      have d3 := (HK.out.cell (p := ⟨b, off + i * 7 + 3, none⟩) hb (fun h => h)).trans h3
      have d4 := (HK.out.cell (p := ⟨b, off + i * 7 + 4, none⟩) hb (fun h => h)).trans h4
      have d5 := (HK.out.cell (p := ⟨b, off + i * 7 + 5, none⟩) hb (fun h => h)).trans h5
      have d6 := (HK.out.cell (p := ⟨b, off + i * 7 + 6, none⟩) hb (fun h => h)).trans h6
      have hi0 : (0 : Int) ≤ (i : Int) := by omega
      have hiI : (i : Int) < (l.length : Int) := by omega
      obtain ⟨kx, dx, lx⟩ := x
      clear hx hrx h0 h1 h2 h3 h4 h5 h6 hxm hcx
      go_wp2_with fail
      go_region_law ((first
        | (rw [if_pos (by rfl)]
           refine wp_append_own8 (.tmp 18) (.tmp 25) 26 rfl (w.heap.size + 3) 28 i0 _ 7 96 Tryz.underlying26 hi hz0 hz1 hz2 rfl (by decide) _ _ _ rfl (HR5.out.alloc _) ⟨w5.heap.size, 0, none⟩ 1 1 (arrP (.mk kx dx lx, ao5, cp5)).toList rfl rfl (one_rich8 _ _ _) (by intro u hu; simp at hu; rcases hu with h | h | h | h | h | h | h <;> (rw [h]; rfl)) (by unfold maxLen; omega) (by omega) (by have := HBo5.out.lt; simp; omega) ?_
           intro v' w9 hown9 hgrow9 hblk9
           obtain ⟨a9, c9, e9⟩ := own_form hown9
           subst e9
           have HBo9 := box_grown8 (HBo5.out.after_alloc _) (HR5.out.alloc _) hgrow9 (by omega)
           have o69 := HBo9.cell 6
           have f69 := HBo9.free 6
           have HRD := Lib.hid (copy_round8 (p := (.mk kx dx lx, ao5, cp5)) HR.out HBr.out HBz.out HBo.out HK.out HD.out HK5.out HN5.out hown9 hgrow9 hblk9)
           clear hown9 hgrow9 hblk9 HBo9)
        | (go_simp; go_at_call 7; refine (PC _ (by repeat' (first | exact HK.out | refine Kept.drewN ?_ _ | refine Kept.drew ?_))).mono ?_; rintro e w5 ⟨⟨v5, rfl, hv5, _⟩, hk5⟩; have q5 := hv5.here; rw [RichS] at q5; obtain ⟨ao5, cp5, rfl, _⟩ := q5; have K5 := Lib.hid ((Kept.drew (Kept.refl (fun _ => False) wr)).trans hk5 (fun _ _ h => h)); have HR5 := Lib.hid (K5.out.owns HR.out (fun _ _ h => h)); have HBo5 := Lib.hid (K5.out.box HBo.out (fun h => h)); have o65 := HBo5.out.cell 6; have o66 := fun ob => (HBo5.out.after_alloc ob).cell 6; have HN5 := Lib.hid hv5; have HK5 := Lib.hid hk5; clear hv5 hk5)
        | fail))
      all_goals go_wp2_with fail
      all_goals go_roundw
      all_goals first
        | (obtain ⟨r1, r2, r3, r4, r5, r6⟩ := HRD.out
           exact ⟨i + 1, _, ps ++ [(.mk kx dx lx, ao5, cp5)], by go_num, by omega, Lib.hid (by rw [HPx.out, List.map_append, HP.out]; rfl), Lib.hid r1, Lib.hid r2, Lib.hid r3, Lib.hid r4, Lib.hid r5, Lib.hid r6⟩)
        | (simp [intOf]; omega)
    · obtain rfl : i = l.length := by omega
      have hge : ¬ (l.length : Int) < (l.length : Int) := by omega
      have z0 := HBz.out.cell 0; have z1 := HBz.out.cell 1; have z2 := HBz.out.cell 2; have z3 := HBz.out.cell 3; have z4 := HBz.out.cell 4; have z5 := HBz.out.cell 5; have z6 := HBz.out.cell 6
      have y0 := HBz.out.free 0; have y1 := HBz.out.free 1; have y2 := HBz.out.free 2; have y3 := HBz.out.free 3; have y4 := HBz.out.free 4; have y5 := HBz.out.free 5; have y6 := HBz.out.free 6
      have o0 := HBo.out.cell 0; have o1 := HBo.out.cell 1; have o2 := HBo.out.cell 2; have o3 := HBo.out.cell 3; have o4 := HBo.out.cell 4; have o5 := HBo.out.cell 5
      go_wp2_with fail
      have hb7 := ((((((HBz.out.stored 0 (.int .u8 (k : Int))).stored 1 (.string ⟨d.name.toArray⟩)).stored 2 (.int .u8 (d.op : Int))).stored 3 (.int .i64 d.evr.epoch)).stored 4 (.string ⟨d.evr.ver.toArray⟩)).stored 5 (.string ⟨d.evr.rel.toArray⟩)).stored 6 (.slice a3 l.length c3)
      have hk7 := ((((((Kept.setCell (S := fun b => b = w.heap.size + 1) (Kept.refl _ wr) (p := ⟨w.heap.size + 1, 0, none⟩) (.inl rfl) (.int .u8 (k : Int))).setCell (p := ⟨w.heap.size + 1, 1, none⟩) (.inl rfl) (.string ⟨d.name.toArray⟩)).setCell (p := ⟨w.heap.size + 1, 2, none⟩) (.inl rfl) (.int .u8 (d.op : Int))).setCell (p := ⟨w.heap.size + 1, 3, none⟩) (.inl rfl) (.int .i64 d.evr.epoch)).setCell (p := ⟨w.heap.size + 1, 4, none⟩) (.inl rfl) (.string ⟨d.evr.ver.toArray⟩)).setCell (p := ⟨w.heap.size + 1, 5, none⟩) (.inl rfl) (.string ⟨d.evr.rel.toArray⟩)).setCell (p := ⟨w.heap.size + 1, 6, none⟩) (.inl rfl) (.slice a3 l.length c3)
      have hp : ps.map Prod.fst = l := by rw [HP.out, List.take_length]
      have hN : RichN (w.heap.size + 2) wr (.mk k d l) (richV k d (.slice a3 l.length c3)) := rich_made (by omega) HKO.out.1 HKO.out.2 hp HR.out HD.out
      exact bodyPost_ret (copy_result rfl _ _ (w.heap.size + 1) _ rfl hb7 rfl) rfl ⟨⟨_, rfl, fun W' hW => hN W' ((hk7.weaker (fun i _ h => by omega)).trans hW (fun i _ h => by omega)), _, rfl, ps, hp, hk7.owns HR.out (fun i hi h => by have := (HR.out.lt i hi).1; omega), fun q1 q2 q3 hq => (HD.out (q1, q2, q3) hq).step (o := w.heap.size + 1) (hk7.weaker (fun i _ h => .inr h)) (by omega) (.inl rfl)⟩, HK.out.trans hk7 (fun i hi h => by omega)⟩
end Go.Proofs.YtoebokgpdkklmaaGreatDoor

namespace Go.Proofs.YtoebokgpdkklmaaGreatDoor
open Go.RowKit Rich Lex Span

theorem one_rich8g (W : World) (g : Nat) (t : TypeId) (cs : Array Value) (hg : g = W.heap.size) : ∀ (j : Nat) u, cs.toList[j]? = some u → (W.alloc (.cells cs t)).cell? ((⟨g, 0, none⟩ : Addr).add j) = some u := by
  subst hg
  intro j u hj
  have h := (Box.made W t cs).cell j
  rw [show ((⟨W.heap.size, 0, none⟩ : Addr).add j) = ⟨W.heap.size, j, none⟩ by simp [Addr.add]; try omega, h]
  simpa using hj
theorem ofD_op {ws : List (List UInt8)} {d : Dep.D} (h : Dep.ofD ws = some d) : d.op < 256 := by
  have h1 := (Dep.words_of h).1
  by_cases h0 : d.op = 0
  · omega
  · have h2 := (Rich.may_ops h1 h0).1
    by_cases h9 : d.op < 256
    · exact h9
    · exfalso
      have : mayO d.op = false := by unfold mayO; simp; omega
      rw [this] at h2
      cases h2
theorem richN_atom {B : Nat} {w : World} {d : Dep.D} (hd : d.op < 256) : RichN B w (.mk 1 d []) (richV 1 d (.slice none 0 0)) := fun W _ => by
  rw [RichS]
  exact ⟨none, 0, rfl, by omega, hd, by rw [ArgS]; trivial⟩
theorem seven_box {w : World} {g : Nat} {t : TypeId} {z0 z1 z2 z3 z4 z5 z6 : Value} (h : Box w g t #[z0, z1, z2, z3, z4, z5, z6]) (x0 x1 x2 x3 x4 x5 x6 : Value) :
    Box (((((((w.setCell ⟨g, 0, none⟩ x0).setCell ⟨g, 1, none⟩ x1).setCell ⟨g, 2, none⟩ x2).setCell ⟨g, 3, none⟩ x3).setCell ⟨g, 4, none⟩ x4).setCell ⟨g, 5, none⟩ x5).setCell ⟨g, 6, none⟩ x6) g t #[x0, x1, x2, x3, x4, x5, x6] := by
  have h1 : Box _ g t #[x0, z1, z2, z3, z4, z5, z6] := h.stored 0 x0
  have h2 : Box _ g t #[x0, x1, z2, z3, z4, z5, z6] := h1.stored 1 x1
  have h3 : Box _ g t #[x0, x1, x2, z3, z4, z5, z6] := h2.stored 2 x2
  have h4 : Box _ g t #[x0, x1, x2, x3, z4, z5, z6] := h3.stored 3 x3
  have h5 : Box _ g t #[x0, x1, x2, x3, x4, z5, z6] := h4.stored 4 x4
  have h6 : Box _ g t #[x0, x1, x2, x3, x4, x5, z6] := h5.stored 5 x5
  exact h6.stored 6 x6
theorem seven_kept {S : Nat → Prop} {a w : World} (h : Kept S a w) {g : Nat} (hg : S g ∨ a.heap.size ≤ g) (x0 x1 x2 x3 x4 x5 x6 : Value) :
    Kept S a (((((((w.setCell ⟨g, 0, none⟩ x0).setCell ⟨g, 1, none⟩ x1).setCell ⟨g, 2, none⟩ x2).setCell ⟨g, 3, none⟩ x3).setCell ⟨g, 4, none⟩ x4).setCell ⟨g, 5, none⟩ x5).setCell ⟨g, 6, none⟩ x6) :=
  Kept.setCell (S := S) (Kept.setCell (S := S) (Kept.setCell (S := S) (Kept.setCell (S := S) (Kept.setCell (S := S) (Kept.setCell (S := S) (Kept.setCell (S := S) h (p := ⟨g, 0, none⟩) hg x0) (p := ⟨g, 1, none⟩) hg x1) (p := ⟨g, 2, none⟩) hg x2) (p := ⟨g, 3, none⟩) hg x3) (p := ⟨g, 4, none⟩) hg x4) (p := ⟨g, 5, none⟩) hg x5) (p := ⟨g, 6, none⟩) hg x6
theorem own_one7 {w : World} {B g : Nat} {e : TypeId} {p : Pc} (hB : B ≤ g) (hb : Box w g e (arrP p)) : w.ownsRow B e 7 (.slice (some ⟨g, 0, none⟩) 1 1) 1 (cellsP [p]) :=
  ⟨rfl, .inr ⟨g, 1, arrP p, rfl, hB, hb, Nat.le_refl _, by unfold maxLen; omega, rfl, by simp [cellsP]⟩⟩
/-- What a round leaves: one Arg more. -/
theorem group_round {wr wx w5 w9 : World} {B G m : Nat} {e : TypeId} {vt v' : Value} {ps : List Pc} {p : Pc} {o : Obj} (hG : G < B) (hBx : B ≤ wr.heap.size)
    (HR : wr.ownsRow B e 7 vt m (cellsP ps)) (HD : ∀ q ∈ ps, Done8 B vt wr q) (hrx : Kept (fun b => b = G) wr wx) (hx5 : Kept (fun b => b = G) wx w5) (hv5 : RichN wx.heap.size w5 p.1 (valP p))
    (hown : w9.ownsRow B e 7 v' (m + 1) (cellsP ps ++ (arrP p).toList)) (hg : (w5.alloc o).grownBy w9 vt.ownBlock) (hb : v'.ownBlock = vt.ownBlock ∨ v'.ownBlock = some (w5.alloc o).heap.size) :
    w9.ownsRow B e 7 v' (m + 1) (cellsP (ps ++ [p])) ∧ Kept (fun b => vt.ownBlock = some b ∨ b = G) wr w9 ∧ ∀ q ∈ ps ++ [p], Done8 B v' w9 q := by
  have K5 : Kept (fun b => b = G) wr w5 := hrx.trans hx5 (fun _ _ h => h)
  have h5 := K5.size
  have hxs := hrx.size
  have hx5s := hx5.size
  have KW : Kept (fun b => vt.ownBlock = some b ∨ b = G) wr w9 := ((K5.weaker (fun _ _ h => .inr h)).alloc o).grown hg (fun i hi => .inl (.inl hi))
  refine ⟨?_, KW, ?_⟩
  · rw [cellsP_app]
    simp only [cellsP, List.append_nil]
    exact hown
  · intro q hq
    rcases List.mem_append.1 hq with hq | hq
    · refine (HD q hq).step KW hG ?_
      rcases hb with hb | hb
      · exact .inl hb
      · exact .inr ⟨_, by simp; omega, hb⟩
    · simp at hq
      subst hq
      refine ⟨w5, wx.heap.size, by omega, hv5, ((Kept.refl _ w5).alloc o).grown hg (fun i hi => .inl (Nat.lt_of_lt_of_le (HR.lt i hi).2 hxs)), fun g hgo => ?_⟩
      rcases hb with hb | hb
      · rw [hb] at hgo
        exact .inl (Nat.lt_of_lt_of_le (HR.lt g hgo).2 hxs)
      · rw [hb] at hgo
        injection hgo with hgo
        simp at hgo
        omega
theorem contF_end {e f o k n : Nat} {c : List R} {ws : List Wd} (h2 : 2 ≤ c.length) (h : textW ws = [41]) : contF e f o k c n ws = .ok (.mk k zD c, n, ws.tail) := by unfold contF; rw [if_pos ⟨h2, h⟩]
theorem contF_no {e f o k n : Nat} {c : List R} {ws : List Wd} (h1 : ¬ (2 ≤ c.length ∧ textW ws = [41])) (h : ¬ (aheadW k c.length ≠ [] ∧ textW ws = aheadW k c.length)) : contF e f o k c n ws = .error (placeW e ws, 4) := by unfold contF; rw [if_neg h1, if_neg h]
theorem contF_yes {e f o k n : Nat} {c : List R} {ws : List Wd} (h1 : ¬ (2 ≤ c.length ∧ textW ws = [41])) (h : aheadW k c.length ≠ [] ∧ textW ws = aheadW k c.length) : contF e f o k c n ws = moreF e f o k c n ws := by unfold contF; rw [if_neg h1, if_pos h]
end Go.Proofs.YtoebokgpdkklmaaGreatDoor
