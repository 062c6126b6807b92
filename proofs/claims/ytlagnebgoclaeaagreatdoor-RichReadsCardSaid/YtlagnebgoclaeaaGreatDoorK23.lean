/-
  The walk over the program's reader of layer 8: a part in parentheses; what reads a part, whatever it is. What reads a part, however many words there are; the whole text. A deferred function that recovers inside a statement whose order Go leaves open: what holds behind every order holds. Nothing of the program is named here. Conditions: as each theorem states.
-/
import Derived.Test.YtlagnebgoclaeaaGreatDoorK22
import Derived.Recover
import Derived.Orders
import Derived.WalkKit
namespace Go.Proofs.YtlagnebgoclaeaaGreatDoor
open Go.RowKit Rich Lex Span

/-- What reads a part reads as the document says, with less than so much to go by. -/
def ReadK (w0 : World) (e F : Nat) : Prop := ∀ (f : Nat), f < F → ∀ (ws : List Wd) (o n G : Nat) (ao : Option Addr) (cp : Nat) (w : World) (r : Res), ws.length < f → o ≤ 8 → n ≤ 24 → Kept (fun _ => False) w0 w → w0.heap.size ≤ G →
  (∀ q ∈ ws, q.1.length ≤ 1000000) → RdW w G e ws n o ao cp → readF e f o n ws = r → Calls Tryz.prog (fnN ws) #[.pointer (some ⟨G, 0, none⟩)] w (ReadP w G e o r)
def leftR (G : Nat) (W : World) : Nat := match W.cell? ⟨G, 0, none⟩ with
  | some (.slice _ n _) => n
  | _ => 0
theorem leftR_eq {w : World} {G e n o : Nat} {ws : List Wd} (h : RdP w G e ws n o) : leftR G w = ws.length := by
  obtain ⟨ao, cp, h⟩ := h
  have c0 : w.cell? ⟨G, 0, none⟩ = some (.slice ao ws.length cp) := h.box.cell 0
  unfold leftR
  rw [c0]
theorem callN (ws : List Wd) (args : Array Value) (W : World) : (callFunc (fnN ws) args).run Tryz.prog W = .ok (.enter (fnN ws) args) W := by
  unfold fnN
  split
  · kernel_rfl
  · split
    · kernel_rfl
    · kernel_rfl
theorem headB_eqB (ws : List Wd) (u : List UInt8) : ((headB ws).toList == (⟨u.toArray⟩ : ByteArray).toList) = decide (textW ws = u) := by
  rw [ByteArray.toList_eq, ByteArray.toList_eq, Bool.eq_iff_iff]
  simp [headB]
theorem headB_data (ws : List Wd) : (headB ws).data.toList = textW ws := rfl
section
variable {w : World} {G e n : Nat} {ws : List Wd} {ao : Option Addr} {cp : Nat}
set_option maxRecDepth 100000 in
set_option maxHeartbeats 4000000 in
theorem groupR_deep (h : RdW w G e ws n 8 ao cp) : Calls Tryz.prog 72 #[.pointer (some ⟨G, 0, none⟩)] w fun ee w' => ee = .panicked [faultR (placeW e ws) 21] ∧ Kept (fun b => b = G) w w' := by
  have WR := wrongR_walk (h.alloc (.cells #[.int .u8 0, .string ⟨#[]⟩, .int .u8 0, .int .i64 0, .string ⟨#[]⟩, .string ⟨#[]⟩, .slice none 0 0] 28)) 21
  have hlt := h.box.lt
  have c3 : w.cell? ⟨G, 3, none⟩ = some (.int .i64 8) := h.box.cell 3
  clear h
  go_enter Tryz.func72, Tryz.ntmps72
  go_wp2_with (first
    | (go_at_call 50; refine WR.mono ?_; rintro ee w1 ⟨rfl, hk1⟩)
    | fail)
  exact ⟨rfl, rfl, (((Kept.refl _ _).alloc _).trans hk1 (fun _ _ h => h.elim))⟩
set_option maxRecDepth 100000 in
set_option maxHeartbeats 4000000 in
theorem groupR_many {o : Nat} (h : RdW w G e ws n o ao cp) (ho : o ≠ 8) (h24 : n ≤ 24) (hn : 24 < n + 1) : Calls Tryz.prog 72 #[.pointer (some ⟨G, 0, none⟩)] w fun ee w' => ee = .panicked [faultR (placeW e ws) 40] ∧ Kept (fun b => b = G) w w' := by
  have BC := beginR_no (h.alloc (.cells #[.int .u8 0, .string ⟨#[]⟩, .int .u8 0, .int .i64 0, .string ⟨#[]⟩, .string ⟨#[]⟩, .slice none 0 0] 28)) hn h24
  have hlt := h.box.lt
  have c3 : w.cell? ⟨G, 3, none⟩ = some (.int .i64 (o : Int)) := h.box.cell 3
  have hob : ((o : Int) == 8) = false := beq_eq_false_iff_ne.2 (by omega)
  clear h ho hn h24
  go_enter Tryz.func72, Tryz.ntmps72
  go_wp2_with (first
    | (go_at_call 85; refine BC.mono ?_; rintro ee w1 ⟨rfl, hk1⟩)
    | fail)
  exact ⟨rfl, rfl, (((Kept.refl _ _).alloc _).trans hk1 (fun _ _ h => h))⟩
end
set_option maxRecDepth 100000 in
set_option maxHeartbeats 16000000 in
theorem groupR_main (w0 : World) (hRow : RowsW w0) {w : World} {G e n o f p : Nat} {rest : List Wd} {ao : Option Addr} {cp : Nat} (hI : ReadK w0 e (f + 1)) (hw : Kept (fun _ => False) w0 w) (hG : w0.heap.size ≤ G)
    (h : RdW w G e (([40], p) :: rest) n o ao cp) (hsz : ∀ q ∈ rest, q.1.length ≤ 1000000) (hf : rest.length < f) (ho : o < 8) (hn : n + 1 ≤ 24) (r : Res) (hrr : readF e (f + 1) o n (([40], p) :: rest) = r) :
    Calls Tryz.prog 72 #[.pointer (some ⟨G, 0, none⟩)] w (ReadP w G e o r) := by
  rw [read_group e f o n p rest (by omega) hn] at hrr
  have hlt := h.box.lt
  have BC := beginR_yes (h.alloc (.cells #[.int .u8 0, .string ⟨#[]⟩, .int .u8 0, .int .i64 0, .string ⟨#[]⟩, .string ⟨#[]⟩, .slice none 0 0] 28)) hn
  have c3 : w.cell? ⟨G, 3, none⟩ = some (.int .i64 (o : Int)) := h.box.cell 3
  have hob : ((o : Int) == 8) = false := beq_eq_false_iff_ne.2 (by omega)
  have HB0 := Lib.hid (Box.made w 28 #[.int .u8 0, .string ⟨#[]⟩, .int .u8 0, .int .i64 0, .string ⟨#[]⟩, .string ⟨#[]⟩, .slice none 0 0])
  have HW := Lib.hid hw
  have HG := Lib.hid hG
  have HI := Lib.hid hI
  have HSZ := Lib.hid hsz
  have HRW := Lib.hid hRow
  obtain ⟨i0, hi, hz0, hz1, hz2⟩ := info_parts info_rich8
  have hmf := mf8
  have hcn := callN rest
  obtain ⟨o1, ho1⟩ : ∃ o1, o1 = o + 1 := ⟨_, rfl⟩
  have HO1 := Lib.hid ho1
  have ho1n : 1 ≤ o1 ∧ o1 ≤ 8 := by omega
  have HOI := Lib.hid (show ((o : Int) + 1) = (o1 : Int) by omega)
  rw [← ho1] at hrr
  have hGne : G ≠ w.heap.size := by omega
  have hGne' : w.heap.size ≠ G := by omega
  obtain ⟨ra, hra⟩ : ∃ ra, ra = readF e f o1 (n + 1) rest := ⟨_, rfl⟩
  rw [← hra] at hrr
  have HRA := Lib.hid hra.symm
  have HRR := Lib.hid hrr
  have hfl := h.ofew
  clear h hw hG hI hsz hRow ho1 hrr hra
  go_enter Tryz.func72, Tryz.ntmps72
  go_wp2_with (first
    | (go_at_call 85; refine BC.mono ?_; rintro ee w1 ⟨rfl, hr1, hk1⟩; have SC := fun z hz => skipR_walk hr1 1 z hz (by simp); have HB1 := Lib.hid (hk1.box HB0.out (by omega)); have HK1 := Lib.hid (((Kept.refl (fun b => b = G) w).alloc (.cells #[.int .u8 0, .string ⟨#[]⟩, .int .u8 0, .int .i64 0, .string ⟨#[]⟩, .string ⟨#[]⟩, .slice none 0 0] 28)).trans hk1 (fun _ _ h => h)); clear hk1 hr1)
    | (go_at_call 86; refine (SC _ rfl).mono ?_; rintro ee w2 ⟨rfl, hr2, hk2⟩; obtain ⟨ao2, cp2, hr2⟩ := hr2; have HB2 := Lib.hid (hk2.box HB1.out (by omega)); have HK2 := Lib.hid (HK1.out.trans hk2 (fun _ _ h => h)); have g3 : w2.cell? ⟨G, 3, none⟩ = some (.int .i64 (o : Int)) := hr2.box.cell 3; have y3 := hr2.box.free 3; have hr3 := hr2.set (i := 3) (u := .int .i64 ((o : Int) + 1)) (n' := n + 1) (o' := o1) hr2.nfew (by omega) (by rw [HOI.out]; rfl); have NC := nextR_walk hr3; have HR3 := Lib.hid hr3; have HB3 := Lib.hid ((Kept.setCell (S := fun b => b = G) (Kept.refl _ w2) (p := ⟨G, 3, none⟩) (.inl rfl) (.int .i64 ((o : Int) + 1))).box HB2.out (by omega)); have HK3 := Lib.hid (HK2.out.setCell (p := ⟨G, 3, none⟩) (.inl rfl) (.int .i64 ((o : Int) + 1))); clear hr2 hk2 hr3)
    | (go_at_call 49; refine NC.mono ?_; rintro ee w1 ⟨rfl, hww⟩; have hwx := Eq.symm hww; clear hww; subst hwx)
    | fail)
  have RC := HI.out f (by omega) rest o1 (n + 1) G ao2 cp2 _ ra hf ho1n.2 hn (HW.out.trans HK3.out (fun i hi h => by have := HG.out; omega)) HG.out HSZ.out HR3.out HRA.out
  clear NC SC BC c3 g3 y3
  cases ra with
  | error x =>
    obtain ⟨xp, xe⟩ := x
    refine RC.mono ?_
    rintro ee w5 ⟨rfl, hk5⟩
    go_wp2_with fail
    exact ⟨rfl, ReadP.err HRR.out.symm (HK3.out.trans hk5 (fun _ _ h => h))⟩
  | ok y =>
    obtain ⟨xa, n2, ws2⟩ := y
    have hless := read_less HRA.out ho1n.2
    simp only at HRR
    refine RC.mono ?_
    rintro ee w5 ⟨⟨v5, rfl, hv5⟩, hr5, hk5⟩
    obtain ⟨xk, xd, xl⟩ := xa
    have q5 := hv5.here
    rw [RichS] at q5
    obtain ⟨ao5, cp5, rfl, _⟩ := q5
    have hsz3 := HK3.out.size
    have hsz5 := hk5.size
    simp only [World.size_setCell] at hsz5
    obtain ⟨aor, cpr, hr5⟩ := hr5
    have HV5 := Lib.hid hv5
    have HK35 := Lib.hid hk5
    have HK5 := Lib.hid ((HK3.out.trans hk5 (fun _ _ h => h)).alloc (.cells (richA xk xd (.slice ao5 xl.length cp5)) 28))
    have HB5 := Lib.hid ((hk5.box HB3.out (by omega)).after_alloc (.cells (richA xk xd (.slice ao5 xl.length cp5)) 28))
    have HR5 := Lib.hid (hr5.alloc (.cells (richA xk xd (.slice ao5 xl.length cp5)) 28))
    have HT5 := Lib.hid (show World.ownsRow (w5.alloc (.cells (richA xk xd (.slice ao5 xl.length cp5)) 28)) (w.heap.size + 1) 28 7 (.slice (some ⟨w5.heap.size, 0, none⟩) 1 1) 1 (cellsP [(.mk xk xd xl, ao5, cp5)]) from own_one7 (p := (.mk xk xd xl, ao5, cp5)) (by have := HB3.out.lt; simp at this; omega) (Box.made w5 28 (richA xk xd (.slice ao5 xl.length cp5))))
    have HD5 := Lib.hid (show ∀ q ∈ [((.mk xk xd xl, ao5, cp5) : Pc)], Done8 (w.heap.size + 1) (.slice (some ⟨w5.heap.size, 0, none⟩) 1 1) (w5.alloc (.cells (richA xk xd (.slice ao5 xl.length cp5)) 28)) q from fun q hq => by
      simp at hq
      subst hq
      exact ⟨w5, _, by have := HB3.out.lt; omega, HV5.out, (Kept.refl _ w5).alloc _, fun g hg => by
        have hg2 : w5.heap.size = g := by simpa [Value.ownBlock] using hg
        exact .inr (by omega)⟩)
    have WC := wordR_walk HR5.out
    change Calls _ _ _ _ fun e w' => e = .returned (.string (headB ws2)) ∧ w' = _ at WC
    have KC := fun W (hk : Kept (fun _ => False) (w5.alloc (.cells (richA xk xd (.slice ao5 xl.length cp5)) 28)) W) => kindP_walk (headB ws2) W (HRW.out.kept ((HW.out.trans HK5.out (fun i hi h => by have := HG.out; omega)).trans hk (fun _ _ h => h)))
    simp only [headB_data] at KC
    have hk7 := kindW_lt (textW ws2)
    obtain ⟨k, hkk⟩ : ∃ k, k = kindW (textW ws2) := ⟨_, rfl⟩
    rw [← hkk] at KC HRR hk7
    have HLS := Lib.hid hless.2.2.2.1
    have hl1 := hless.1
    have hl2 := hless.2.1
    have hl3 := hless.2.2.1
    clear hkk hv5 hk5 hr5 hless HB0 HB1 HB2 HB3 HK1 HK2 HK3 HR3 RC
    go_wp2_with (first
      | (go_at_call 71; refine WC.mono ?_; rintro ee w1 ⟨rfl, hww⟩; have hwx := Eq.symm hww; clear hww; subst hwx)
      | (go_at_call 87; refine (KC _ (Kept.refl _ _)).mono ?_; rintro ee w7 ⟨rfl, hk7'⟩)
      | fail)
    have HB7 := Lib.hid (hk7'.box HB5.out (fun h => h))
    have HK7 := Lib.hid (HK5.out.trans hk7' (fun _ _ h => h.elim))
    have HR7 := Lib.hid (show RdP w7 G e ws2 n2 o1 from ⟨aor, cpr, HR5.out.keep hk7' (fun _ _ h => h)⟩)
    have HT7 := Lib.hid (hk7'.owns HT5.out (fun _ _ h => h))
    have HD7 := Lib.hid (show ∀ q ∈ [((.mk xk xd xl, ao5, cp5) : Pc)], Done8 (w.heap.size + 1) (.slice (some ⟨w5.heap.size, 0, none⟩) 1 1) w7 q from fun q hq => (HD5.out q hq).step (o := G) (hk7'.weaker (fun _ _ h => h.elim)) (by omega) (.inl rfl))
    have HSX := Lib.hid (show ∃ a, rest = a ++ ws2 from HLS.out)
    have hk7s := hk7'.size
    clear hk7' WC KC HB5 HK5 HR5 HT5 HD5
    go_loopw [3] (fun v3 wr => ∃ (f' : Nat) (ps : List Pc) (vt : Value) (n' : Nat) (ws' : List Wd), v3 = vt ∧ ws'.length < f' ∧ f' ≤ f ∧ ps.length + 1 ≤ n' ∧ n' ≤ 24 ∧ 1 ≤ ps.length ∧ Hid (contF e f' o1 k (ps.map Prod.fst) n' ws' = r) ∧ Hid (wr.ownsRow (w.heap.size + 1) 28 7 vt ps.length (cellsP ps)) ∧ Hid (∀ q ∈ ps, Done8 (w.heap.size + 1) vt wr q) ∧ Hid (RdP wr G e ws' n' o1) ∧ Hid (Box wr w.heap.size 28 #[.int .u8 0, .string ⟨#[]⟩, .int .u8 0, .int .i64 0, .string ⟨#[]⟩, .string ⟨#[]⟩, .slice none 0 0]) ∧ Hid (Kept (fun b => b = G) w wr) ∧ Hid (∃ a, rest = a ++ ws')) (fun _ wr => leftR G wr)
    case atStart => exact ⟨f, [((.mk xk xd xl, ao5, cp5) : Pc)], _, n2, ws2, rfl, by omega, Nat.le_refl _, by simp; omega, hl3, by simp, HRR, HT7, HD7, HR7, HB7, HK7, HSX⟩
    case round =>
      obtain ⟨f', ps, vt, n', ws', hvt, hf', hff, hpn, hn24, hp1, HC, HT, HD, HR, HB, HK, HSF⟩ := hrel
      replace hvt := hvt.symm
      subst hvt
      rename World => wr
      obtain ⟨a3, c3, e3⟩ := own_form HT.out
      subst e3
      have hszr := HK.out.size
      obtain ⟨aow, cpw, hrw⟩ := HR.out
      have HRw := Lib.hid hrw
      have WC := wordR_walk hrw
      change Calls _ _ _ _ fun e w' => e = .returned (.string (headB ws')) ∧ w' = _ at WC
      have h41 := headB_eq ws' [41]
      have hlm : (ps.map Prod.fst).length = ps.length := List.length_map _
      have HKw := Lib.hid (HW.out.trans HK.out (fun i hi h => by have := HG.out; omega))
      clear hrw
      by_cases hend : 2 ≤ ps.length ∧ textW ws' = [41]
      · have hRE := (contF_end (e := e) (f := f') (o := o1) (k := k) (n := n') (by rw [hlm]; exact hend.1) hend.2).symm.trans HC.out
        have HRE := Lib.hid hRE.symm
        rw [decide_eq_true hend.2] at h41
        have h41' : ((headB ws').toList != [41]) = false := by simp [bne, h41]
        have h2 : (2 : Int) ≤ (ps.length : Int) := by omega
        have hlw : 1 ≤ ws'.length := by
          cases ws' with
          | nil => exact absurd hend.2 (by simp [textW])
          | cons => simp
        have SC := fun z hz => skipR_walk HRw.out 1 z hz hlw
        rw [List.drop_one] at SC
        have HPF := Lib.hid (show RichN (w.heap.size + 1) wr (.mk k zD (ps.map Prod.fst)) (richV k zD (.slice a3 ps.length c3)) from by
          have h := rich_made (B := w.heap.size + 1) (w0 := w.heap.size + 1) (k := k) (d := zD) (l := ps.map Prod.fst) (ps := ps) (vt := .slice a3 ps.length c3) (wr := wr) (e := 28) (Nat.le_refl _) (by omega) (by show 0 < 256; omega) rfl (by rw [hlm]; exact HT.out) HD.out
          exact h)
        generalize headB ws' = hb at *
        clear hend hRE hlm
        go_wp2_with (first
          | (go_at_call 71; refine WC.mono ?_; rintro ee w1 ⟨rfl, hww⟩; have hwx := Eq.symm hww; clear hww; subst hwx)
          | fail)
        go_wp2_with (first
          | (go_at_call 86; refine (SC _ rfl).mono ?_; rintro ee w6 ⟨rfl, hr6, hk6⟩; obtain ⟨ao6, cp6, hr6⟩ := hr6; have g3 : w6.cell? ⟨G, 3, none⟩ = some (.int .i64 (o1 : Int)) := hr6.box.cell 3; have y3 := hr6.box.free 3; have HB6 := Lib.hid (hk6.box HB.out (by omega)); have z0 := HB6.out.cell 0; have z1 := HB6.out.cell 1; have z2 := HB6.out.cell 2; have z3 := HB6.out.cell 3; have z4 := HB6.out.cell 4; have z5 := HB6.out.cell 5; have z6 := HB6.out.cell 6; have y0 := HB6.out.free 0; have y1 := HB6.out.free 1; have y2 := HB6.out.free 2; have y4 := HB6.out.free 4; have y5 := HB6.out.free 5; have y6 := HB6.out.free 6; have y7 := HB6.out.free 3)
          | fail)
        have hr7 := hr6.set (i := 3) (u := .int .i64 ((o1 : Int) - 1)) (n' := n') (o' := o) hr6.nfew hfl (by rw [← HOI.out, show (o : Int) + 1 - 1 = (o : Int) by omega]; rfl)
        have K7 := Kept.setCell (S := fun b => b = G) (Kept.refl _ w6) (p := ⟨G, 3, none⟩) (.inl rfl) (.int .i64 ((o1 : Int) - 1))
        have hb7 := seven_box (K7.box HB6.out (by omega)) (.int .u8 (k : Int)) (.string ⟨#[]⟩) (.int .u8 0) (.int .i64 0) (.string ⟨#[]⟩) (.string ⟨#[]⟩) (.slice a3 ps.length c3)
        have hk7 := seven_kept (S := fun b => b = w.heap.size) (Kept.refl _ (w6.setCell ⟨G, 3, none⟩ (.int .i64 ((o1 : Int) - 1)))) (g := w.heap.size) (.inl rfl) (.int .u8 (k : Int)) (.string ⟨#[]⟩) (.int .u8 0) (.int .i64 0) (.string ⟨#[]⟩) (.string ⟨#[]⟩) (.slice a3 ps.length c3)
        have hkr : Kept (fun b => b = G ∨ b = w.heap.size) wr _ := ((hk6.trans K7 (fun _ _ h => h)).weaker (T := fun b => b = G ∨ b = w.heap.size) (fun _ _ h => .inl h)).trans hk7 (fun _ _ h => .inr h)
        exact bodyPost_ret (copy_result rfl _ _ w.heap.size _ rfl hb7 rfl) rfl (ReadP.ok HRE.out (fun W' hW => HPF.out W' ((hkr.weaker (fun i _ h => by omega)).trans hW (fun i _ h => by omega))) ⟨ao6, cp6, hr7.keep hk7 (fun j hj h => by omega)⟩ (((HK.out.trans hk6 (fun _ _ h => h)).trans K7 (fun _ _ h => h)).trans hk7 (fun j hj h => by omega)))
      · have AC := fun z hz W (hk : Kept (fun _ => False) wr W) => aheadP_int k ps.length z hz (by omega) W (HRW.out.kept (HKw.out.trans hk (fun _ _ h => h)))
        have hE : (⟨(aheadW k ps.length).toArray⟩ : ByteArray).toList.isEmpty = decide (aheadW k ps.length = []) := by
          rw [ByteArray.toList_eq]
          cases aheadW k ps.length <;> rfl
        have hQ := headB_eqB ws' (aheadW k ps.length)
        have hways : (((ps.length : Int) < 2)) ∨ ((2 : Int) ≤ (ps.length : Int) ∧ ((headB ws').toList == [41]) = false) := by
          by_cases h2 : ps.length < 2
          · exact .inl (by omega)
          · refine .inr ⟨by omega, ?_⟩
            rw [decide_eq_false (fun h => hend ⟨by omega, h⟩)] at h41
            exact h41
        clear h41
        by_cases hah : aheadW k ps.length ≠ [] ∧ textW ws' = aheadW k ps.length
        · obtain ⟨f2, rfl⟩ : ∃ f2, f' = f2 + 1 := ⟨f' - 1, by omega⟩
          have hlw : 1 ≤ ws'.length := by
            cases ws' with
            | nil => exact absurd hah.2.symm hah.1
            | cons => simp
          have hRC := HC.out
          rw [contF_yes (by rw [hlm]; exact hend) (by rw [hlm]; exact hah), cont_more e f2 o1 k n' (ps.map Prod.fst) ws' (ahead_kind hp1 hah.1) (by rw [hlm]; exact hp1) (by rw [hlm]; exact hpn) ho1n.2] at hRC
          have hwb : headB ws' = (⟨(aheadW k ps.length).toArray⟩ : ByteArray) := by unfold headB; rw [hah.2]
          have DC := demandR_yes HRw.out (⟨(aheadW k ps.length).toArray⟩ : ByteArray) hwb (by rw [hE]; exact decide_eq_false hah.1)
          have htl : ws'.tail.length + 1 = ws'.length := by cases ws' with | nil => simp at hlw | cons => simp
          have HTL := Lib.hid htl
          have hcn2 := callN ws'.tail
          obtain ⟨ra, hra⟩ : ∃ ra, ra = readF e f2 o1 n' ws'.tail := ⟨_, rfl⟩
          rw [← hra] at hRC
          have HRA := Lib.hid hra.symm
          have HRC := Lib.hid hRC
          have HSF2 := Lib.hid (show ∃ a, rest = a ++ ws'.tail from by
            obtain ⟨a, ha⟩ := HSF.out
            cases ws' with
            | nil => exact ⟨a, ha⟩
            | cons q l => exact ⟨a ++ [q], by rw [ha]; simp⟩)
          have HSZ2 := Lib.hid (show ∀ q ∈ ws'.tail, q.1.length ≤ 1000000 from fun q hq => by
            obtain ⟨a, ha⟩ := HSF2.out
            exact HSZ.out q (by rw [ha]; exact List.mem_append_right _ hq))
          have hfc : ws'.tail.length < f2 ∧ f2 < f + 1 := by omega
          generalize (⟨(aheadW k ps.length).toArray⟩ : ByteArray) = wb at *
          generalize headB ws' = hb at *
          clear hah hRC hra htl hwb hE hQ hend hlm
          rcases hways with hm2 | ⟨hm2, hn41⟩
          all_goals
            go_wp2_with (first
              | (go_at_call 71; refine WC.mono ?_; rintro ee w1 ⟨rfl, hww⟩; have hwx := Eq.symm hww; clear hww; subst hwx)
              | (go_at_call 37; refine (AC _ rfl _ (Kept.refl _ _)).mono ?_; rintro ee w1 ⟨rfl, hww⟩; have hwx := Eq.symm hww; clear hww; subst hwx)
              | (go_at_call 88; refine DC.mono ?_; rintro ee w4 ⟨rfl, hr4, hk4⟩; obtain ⟨ao4, cp4, hr4⟩ := hr4; have NC := nextR_walk hr4)
              | (go_at_call 49; refine NC.mono ?_; rintro ee w1 ⟨rfl, hww⟩; have hwx := Eq.symm hww; clear hww; subst hwx)
              | fail)
            have RC := HI.out f2 hfc.2 ws'.tail o1 n' G ao4 cp4 _ ra hfc.1 ho1n.2 hn24 (HKw.out.trans hk4 (fun i hi h => by have := HG.out; omega)) HG.out HSZ2.out hr4 HRA.out
            have HK4 := Lib.hid hk4
            clear NC hr4
            cases ra with
            | error x =>
              obtain ⟨xp, xe⟩ := x
              refine RC.mono ?_
              rintro ee w5 ⟨rfl, hk5⟩
              go_wp2_with fail
              exact ⟨rfl, ReadP.err HRC.out.symm ((HK.out.trans HK4.out (fun _ _ h => h)).trans hk5 (fun _ _ h => h))⟩
            | ok y =>
              obtain ⟨xa, nb, wsb⟩ := y
              have hless := read_less HRA.out ho1n.2
              simp only at HRC
              refine RC.mono ?_
              rintro ee w5 ⟨⟨v5, rfl, hv5⟩, hr5, hk5⟩
              obtain ⟨yk, yd, yl⟩ := xa
              have q5 := hv5.here
              rw [RichS] at q5
              obtain ⟨aoy, cpy, rfl, _⟩ := q5
              have hsz4 := HK4.out.size
              have hsz5 := hk5.size
              have HV5 := Lib.hid hv5
              have HK5 := Lib.hid hk5
              have HRb := Lib.hid hr5
              have HT5 := Lib.hid (((HK4.out.trans hk5 (fun _ _ h => h)).owns HT.out (fun i hi h => by have := (HT.out.lt i hi).1; omega)).alloc (.cells (richA yk yd (.slice aoy yl.length cpy)) 28))
              have HLL := Lib.hid hless
              have hl1 := hless.1
              have hl2 := hless.2.1
              have hl3 := hless.2.2.1
              clear hv5 hr5 hk5 hless RC
              go_wp2_with (first
                | (at_builtin; (refine wpList_append_own_at _ rfl _ _ 26 rfl (w.heap.size + 1) 28 i0 _ 7 96 Tryz.underlying26 hi hz0 hz1 hz2 rfl (by decide) _ _ _ rfl HT5.out ⟨w5.heap.size, 0, none⟩ 1 1 (arrP (.mk yk yd yl, aoy, cpy)).toList rfl rfl (one_rich8g _ _ _ _ rfl) (by intro u hu; simp at hu; rcases hu with h | h | h | h | h | h | h <;> (rw [h]; rfl)) (by unfold maxLen; omega) (by omega) (by simp; omega) ?_; intro v9 w9 hown9 hgrow9 _ hblk9; have HGR := Lib.hid (group_round (p := (.mk yk yd yl, aoy, cpy)) (by omega) (by have := HB.out.lt; omega) HT.out HD.out HK4.out HK5.out HV5.out hown9 hgrow9 hblk9); have HR9 := Lib.hid (HRb.out.keep (S := fun b => w.heap.size + 1 ≤ b) (((Kept.refl _ w5).alloc _).grown hgrow9 (fun i hi => .inl (HT.out.lt i hi).1)) (fun j hj h => by omega)); clear hown9 hgrow9 hblk9))
                | fail)
              obtain ⟨r1, r2, r3⟩ := HGR.out
              have HB9 := Lib.hid (r2.box HB.out (fun h => by
                rcases h with h | h
                · have := (HT.out.lt _ h).1; omega
                · omega))
              have HK9 := Lib.hid (HK.out.trans r2 (fun i hi h => by
                rcases h with h | h
                · have := (HT.out.lt _ h).1; omega
                · exact h))
              have HS9 := Lib.hid (show ∃ a, rest = a ++ wsb from by
                obtain ⟨a, ha⟩ := HSF2.out
                obtain ⟨b, hb⟩ := HLL.out.2.2.2.1
                exact ⟨a ++ b, by rw [ha, hb]; simp⟩)
              have HM := Lib.hid (show leftR G w9 < leftR G wr from by
                rw [leftR_eq HR9.out, leftR_eq HR.out, ← HTL.out]; omega)
              have R1 := Lib.hid r1
              have R3 := Lib.hid r3
              clear r1 r2 r3
              go_roundw
              case rel => exact ⟨f2, ps ++ [((.mk yk yd yl, aoy, cpy) : Pc)], _, nb, wsb, rfl, by omega, by omega, by simp; omega, hl3, by simp, Lib.hid (by rw [List.map_append]; exact HRC.out), Lib.hid (by rw [List.length_append]; exact R1.out), R3, HR9, HB9, HK9, HS9⟩
              case measure => exact HM.out
        · have hRE := (contF_no (e := e) (f := f') (o := o1) (k := k) (n := n') (by rw [hlm]; exact hend) (by rw [hlm]; exact hah)).symm.trans HC.out
          have HRE := Lib.hid hRE.symm
          have DC := demandR_no HRw.out (⟨(aheadW k ps.length).toArray⟩ : ByteArray) (by
            by_cases h0 : aheadW k ps.length = []
            · exact .inl (by rw [hE]; exact decide_eq_true h0)
            · refine .inr ⟨by rw [hE]; exact decide_eq_false h0, ?_⟩
              rw [hQ]
              exact decide_eq_false (fun h => hah ⟨h0, h⟩))
          generalize (⟨(aheadW k ps.length).toArray⟩ : ByteArray) = wb at *
          generalize headB ws' = hb at *
          clear hah hRE hend hE hQ hlm
          rcases hways with hm2 | ⟨hm2, hn41⟩
          all_goals
            go_wp2_with (first
              | (go_at_call 71; refine WC.mono ?_; rintro ee w1 ⟨rfl, hww⟩; have hwx := Eq.symm hww; clear hww; subst hwx)
              | (go_at_call 37; refine (AC _ rfl _ (Kept.refl _ _)).mono ?_; rintro ee w1 ⟨rfl, hww⟩; have hwx := Eq.symm hww; clear hww; subst hwx)
              | (go_at_call 88; refine DC.mono ?_; rintro ee w4 ⟨rfl, hk4⟩)
              | fail)
            exact ⟨rfl, ReadP.err HRE.out (HK.out.trans hk4 (fun _ _ h => h))⟩
end Go.Proofs.YtlagnebgoclaeaaGreatDoor

namespace Go.Proofs.YtlagnebgoclaeaaGreatDoor
open Go.RowKit Rich Lex Span

theorem readK_all (w0 : World) (hRow : RowsW w0) (hOf : OfP8 w0) (e : Nat) : ∀ F, ReadK w0 e F := by
  intro F
  induction F with
  | zero => intro f hf; omega
  | succ F ih =>
    intro f hf ws o n G ao cp w r hl ho hn hw hG hsz hR hr
    obtain ⟨f1, rfl⟩ : ∃ f1, f = f1 + 1 := ⟨f - 1, by omega⟩
    have ih' : ReadK w0 e (f1 + 1) := fun f' hf' => ih f' (by omega)
    by_cases h40 : textW ws = [40]
    · rw [show fnN ws = 72 by unfold fnN; rw [if_pos h40]]
      match ws, h40, hl, hsz, hR, hr with
      | [], h40, _, _, _, _ => exact absurd h40 (by simp [textW])
      | (t, p) :: rest, h40, hl, hsz, hR, hr =>
        obtain rfl : t = [40] := h40
        by_cases h8 : o = 8
        · subst h8
          rw [read_deep] at hr
          exact (groupR_deep hR).mono fun ee w' ⟨h1, h2⟩ => by subst h1; exact ReadP.err hr.symm h2
        · by_cases h24 : 24 < n + 1
          · rw [read_many e f1 o n p [40] rest (by decide) (by decide) (fun _ => h8) h24] at hr
            exact (groupR_many hR h8 hn h24).mono fun ee w' ⟨h1, h2⟩ => by subst h1; exact ReadP.err hr.symm h2
          · exact groupR_main w0 hRow ih' hw hG hR (fun q hq => hsz q (List.mem_cons_of_mem _ hq)) (by simp at hl; omega) (by omega) (by omega) r hr
    · by_cases h41 : textW ws = [41] ∨ textW ws = []
      · rw [show fnN ws = 73 by unfold fnN; rw [if_neg h40, if_pos h41]]
        rw [read_not e f1 o n ws h41.symm] at hr
        exact (refuseR_walk hR).mono fun ee w' ⟨h1, h2⟩ => by subst h1; exact ReadP.err hr.symm h2
      · rw [show fnN ws = 74 by unfold fnN; rw [if_neg h40, if_neg h41]]
        match ws, h40, h41, hl, hsz, hR, hr with
        | [], _, h41, _, _, _, _ => exact absurd (.inr rfl) h41
        | (t, p) :: rest, h40, h41, hl, hsz, hR, hr =>
          by_cases h24 : 24 < n + 1
          · rw [read_many e f1 o n p t rest (fun h => h41 (.inr h)) (fun h => h41 (.inl h)) (fun h => absurd h h40) h24] at hr
            exact (plainR_many hR hn h24).mono fun ee w' ⟨h1, h2⟩ => by subst h1; exact ReadP.err hr.symm h2
          · rw [read_plain e f1 o n p t rest (fun h => h41 (.inr h)) (fun h => h41 (.inl h)) h40 (by omega)] at hr
            exact plainR_walk w0 hOf hw hG hR (by simp) hsz (by omega) r hr
/-- What reading all of it comes to. -/
def allR : Res → Except (Nat × Int) R
  | .error x => .error x
  | .ok (x, _, []) => .ok x
  | .ok (_, _, (_, a) :: _) => .error (a, 4)
theorem parseF_all {s : List UInt8} (h : (answer s).2.2 = 0) : parseF s = allR (readF s.length ((answer s).1.length + 1) 0 0 (answer s).1) := by
  unfold parseF
  rw [if_neg (by rw [h]; simp)]
  unfold allR
  cases readF s.length ((answer s).1.length + 1) 0 0 (answer s).1 with
  | error x => rfl
  | ok y =>
    obtain ⟨x, n, l⟩ := y
    cases l <;> rfl
def AllP (w : World) (G : Nat) (r : Except (Nat × Int) R) (ee : Ending) (w' : World) : Prop :=
  match r with
  | .ok x => (∃ v, ee = .returned v ∧ RichN w.heap.size w' x v) ∧ Kept (fun b => b = G) w w'
  | .error (p, er) => ee = .panicked [faultR p er] ∧ Kept (fun b => b = G) w w'
theorem AllP.ok {w : World} {G : Nat} {r : Except (Nat × Int) R} {x : R} {v : Value} {w' : World} (hr : r = .ok x) (h1 : RichN w.heap.size w' x v) (h3 : Kept (fun b => b = G) w w') : AllP w G r (.returned v) w' := by
  subst hr; exact ⟨⟨v, rfl, h1⟩, h3⟩
theorem AllP.err {w : World} {G : Nat} {r : Except (Nat × Int) R} {p : Nat} {er : Int} {w' : World} (hr : r = .error (p, er)) (h3 : Kept (fun b => b = G) w w') : AllP w G r (.panicked [faultR p er]) w' := by
  subst hr; exact ⟨rfl, h3⟩
set_option maxRecDepth 100000 in
set_option maxHeartbeats 8000000 in
theorem allR_walk (w0 : World) (hRow : RowsW w0) (hOf : OfP8 w0) {w : World} {G e : Nat} {ws : List Wd} {ao : Option Addr} {cp : Nat} (hw : Kept (fun _ => False) w0 w) (hG : w0.heap.size ≤ G) (h : RdW w G e ws 0 0 ao cp) (hsz : ∀ q ∈ ws, q.1.length ≤ 1000000) (r : Except (Nat × Int) R) (hrr : allR (readF e (ws.length + 1) 0 0 ws) = r) :
    Calls Tryz.prog 33 #[.pointer (some ⟨G, 0, none⟩)] w (AllP w G r) := by
  have hlt := h.box.lt
  have h1 := h.alloc (.cells #[.int .u8 0, .string ⟨#[]⟩, .int .u8 0, .int .i64 0, .string ⟨#[]⟩, .string ⟨#[]⟩, .slice none 0 0] 28)
  have NC := nextR_walk h1
  obtain ⟨ra, hra⟩ : ∃ ra, ra = readF e (ws.length + 1) 0 0 ws := ⟨_, rfl⟩
  rw [← hra] at hrr
  have RC := readK_all w0 hRow hOf e (ws.length + 2) (ws.length + 1) (by omega) ws 0 0 G ao cp _ ra (by omega) (by omega) (by omega) (hw.alloc _) hG hsz h1 hra.symm
  have hless := fun xa n2 ws2 (h : ra = .ok (xa, n2, ws2)) => read_less (hra.symm.trans h) (Nat.zero_le 8)
  have HB0 := Lib.hid (Box.made w 28 #[.int .u8 0, .string ⟨#[]⟩, .int .u8 0, .int .i64 0, .string ⟨#[]⟩, .string ⟨#[]⟩, .slice none 0 0])
  have hcn := callN ws
  have HRR := Lib.hid hrr
  have HK0 := Lib.hid ((Kept.refl (fun b => b = G) w).alloc (.cells #[.int .u8 0, .string ⟨#[]⟩, .int .u8 0, .int .i64 0, .string ⟨#[]⟩, .string ⟨#[]⟩, .slice none 0 0] 28))
  clear h h1 hw hG hsz hRow hOf hrr hra
  go_enter Tryz.func33, Tryz.ntmps33
  go_wp2_with (first
    | (go_at_call 49; refine NC.mono ?_; rintro ee w1 ⟨rfl, hww⟩; have hwx := Eq.symm hww; clear hww; subst hwx)
    | fail)
  cases ra with
  | error x =>
    obtain ⟨xp, xe⟩ := x
    refine RC.mono ?_
    rintro ee w5 ⟨rfl, hk5⟩
    go_wp2_with fail
    exact ⟨rfl, AllP.err HRR.out.symm (HK0.out.trans hk5 (fun _ _ h => h))⟩
  | ok y =>
    obtain ⟨xa, n2, ws2⟩ := y
    have HL := Lib.hid (hless xa n2 ws2 rfl)
    clear hless
    refine RC.mono ?_
    rintro ee w5 ⟨⟨v5, rfl, hv5⟩, hr5, hk5⟩
    obtain ⟨xk, xd, xl⟩ := xa
    have q5 := hv5.here
    rw [RichS] at q5
    obtain ⟨ao5, cp5, rfl, _⟩ := q5
    obtain ⟨aor, cpr, hr5⟩ := hr5
    have hsz5 := hk5.size
    have HV5 := Lib.hid hv5
    have HB5 := Lib.hid ((hk5.box HB0.out (by omega)).after_alloc (.cells (richA xk xd (.slice ao5 xl.length cp5)) 28))
    have HBr := Lib.hid (Box.made w5 28 (richA xk xd (.slice ao5 xl.length cp5)))
    have HK5 := Lib.hid ((HK0.out.trans hk5 (fun _ _ h => h)).alloc (.cells (richA xk xd (.slice ao5 xl.length cp5)) 28))
    have HR5 := Lib.hid (hr5.alloc (.cells (richA xk xd (.slice ao5 xl.length cp5)) 28))
    have c0 : (w5.alloc (.cells (richA xk xd (.slice ao5 xl.length cp5)) 28)).cell? ⟨G, 0, none⟩ = some (.slice aor ws2.length cpr) := HR5.out.box.cell 0
    have WR := wrongR_walk HR5.out 4
    have hfw := hr5.few
    simp only [World.size_alloc] at hsz5
    clear hv5 hk5 hr5 HB0 HK0 NC RC
    rcases ws2 with _ | ⟨⟨wt, wa⟩, wl⟩
    · have c0' : (w5.alloc (.cells (richA xk xd (.slice ao5 xl.length cp5)) 28)).cell? ⟨G, 0, none⟩ = some (.slice aor 0 cpr) := c0
      clear c0 WR
      have z0 := HB5.out.cell 0; have z1 := HB5.out.cell 1; have z2 := HB5.out.cell 2; have z3 := HB5.out.cell 3; have z4 := HB5.out.cell 4; have z5 := HB5.out.cell 5; have z6 := HB5.out.cell 6
      have y0 := HB5.out.free 0; have y1 := HB5.out.free 1; have y2 := HB5.out.free 2; have y3 := HB5.out.free 3; have y4 := HB5.out.free 4; have y5 := HB5.out.free 5; have y6 := HB5.out.free 6
      have x0 := HBr.out.cell 0; have x1 := HBr.out.cell 1; have x2 := HBr.out.cell 2; have x3 := HBr.out.cell 3; have x4 := HBr.out.cell 4; have x5 := HBr.out.cell 5; have x6 := HBr.out.cell 6
      go_wp2_with fail
      have hb7 := seven_box HB5.out (.int .u8 (xk : Int)) (.string ⟨xd.name.toArray⟩) (.int .u8 (xd.op : Int)) (.int .i64 xd.evr.epoch) (.string ⟨xd.evr.ver.toArray⟩) (.string ⟨xd.evr.rel.toArray⟩) (.slice ao5 xl.length cp5)
      have hk7 := seven_kept (S := fun b => b = w.heap.size) (Kept.refl _ (w5.alloc (.cells (richA xk xd (.slice ao5 xl.length cp5)) 28))) (g := w.heap.size) (.inl rfl) (.int .u8 (xk : Int)) (.string ⟨xd.name.toArray⟩) (.int .u8 (xd.op : Int)) (.int .i64 xd.evr.epoch) (.string ⟨xd.evr.ver.toArray⟩) (.string ⟨xd.evr.rel.toArray⟩) (.slice ao5 xl.length cp5)
      have hkr := ((Kept.refl (fun b => b < w.heap.size + 1) w5).alloc (.cells (richA xk xd (.slice ao5 xl.length cp5)) 28)).trans hk7 (fun i _ h => by omega)
      exact bodyPost_ret (copy_result rfl _ _ w.heap.size _ rfl hb7 rfl) rfl (AllP.ok HRR.out.symm (fun W' hW => HV5.out W' (by
        have h9 := hkr.trans hW (fun i _ h => by omega)
        rw [World.size_alloc]
        exact h9)) (HK5.out.trans hk7 (fun j hj h => by omega)))
    · have hlb : (0 : Int) < (((wt, wa) :: wl).length : Int) := by simp
      have hpl : placeW e ((wt, wa) :: wl) = wa := rfl
      rw [hpl] at WR
      generalize ((wt, wa) :: wl).length = m at *
      go_wp2_with (first
        | (go_at_call 50; refine WR.mono ?_; rintro ee w6 ⟨rfl, hk6⟩)
        | fail)
      exact ⟨rfl, AllP.err HRR.out.symm (HK5.out.trans hk6 (fun _ _ h => h.elim))⟩
end Go.Proofs.YtlagnebgoclaeaaGreatDoor

namespace Go.Proofs.YtlagnebgoclaeaaGreatDoor

/-- One operation of a deferred function. -/
def stepS (P : Program) (ops : Array Oper) (Q : Exit → Act → List Frame → World → Prop) (i : Nat) (K : Act → List Frame → World → Prop) (a : Act) (cs : List Frame) (w : World) : Prop :=
  match ops[i]? with
  | none => K a cs w
  | some o =>
    if Region.wanted o (yielded ops a.tmps) then
      match (execOp a.eval o).run P w with
      | .ok .recover w' =>
        match recoverD cs with
        | some (v, cs') => K (a.put o.dst v) cs' w'
        | none => K (a.put o.dst .nilIface) cs w'
      | r => o.upon P a (fun a' w' => K a' cs w') (fun e a' w' => Q e a' cs w') r
    else K (a.put o.dst undef) cs w

section
variable {P : Program} {ops : Array Oper} {Q : Exit → Act → List Frame → World → Prop}

theorem wpOpsS_step (i : Nat) (rest : List Nat) (a : Act) (cs : List Frame) (w : World) : wpOpsS P ops Q (i :: rest) a cs w = stepS P ops Q i (wpOpsS P ops Q rest) a cs w := by
  unfold wpOpsS stepS
  rfl

theorem upon_weaker {o : Oper} {a : Act} {K K' : Act → World → Prop} {R : Exit → Act → World → Prop} (h : ∀ a w, K a w → K' a w) : ∀ r : Result Next, o.upon P a K R r → o.upon P a K' R r := by
  intro r hh
  cases r with
  | ok n w' =>
    cases n <;> simp only [Oper.upon] at hh ⊢
    all_goals first
      | exact h _ _ hh
      | exact Calls.mono hh (fun e w2 he => by cases e <;> first | exact h _ _ he | exact he)
      | exact Rows.mono hh (fun _ _ he => h _ _ he)
  | halt x w' => cases x <;> simp only [Oper.upon] at hh ⊢ <;> exact hh

theorem stepS_weaker {i : Nat} {K K' : Act → List Frame → World → Prop} (h : ∀ a cs w, K a cs w → K' a cs w) {a : Act} {cs : List Frame} {w : World} (hh : stepS P ops Q i K a cs w) : stepS P ops Q i K' a cs w := by
  unfold stepS at hh ⊢
  cases ho : ops[i]? with
  | none => simp only [ho] at hh ⊢; exact h _ _ _ hh
  | some o =>
    simp only [ho] at hh ⊢
    by_cases hw : Region.wanted o (yielded ops a.tmps) = true
    · simp only [hw, if_true] at hh ⊢
      split at hh
      · split at hh <;> exact h _ _ _ hh
      · exact upon_weaker (fun a w => h a cs w) _ hh
    · simp only [hw, if_false, Bool.false_eq_true] at hh ⊢
      exact h _ _ _ hh

/-- Whatever operation comes next, of those that may. -/
def anyS (P : Program) (ops : Array Oper) (Q : Exit → Act → List Frame → World → Prop) : Nat → Array Bool → Act → List Frame → World → Prop
  | 0, listed, a, cs, w => Region.ready .any ops listed = [] ∧ Q .normal a cs w
  | f + 1, listed, a, cs, w =>
    (Region.ready .any ops listed = [] → Q .normal a cs w) ∧ ∀ i ∈ Region.ready .any ops listed, stepS P ops Q i (anyS P ops Q f (listed.setIfInBounds i true)) a cs w

theorem anyS_all : ∀ (f t : Nat) (listed : Array Bool) (a : Act) (cs : List Frame) (w : World), anyS P ops Q f listed a cs w → wpOpsS P ops Q (Region.linearise.go .any ops f t listed []) a cs w := by
  intro f
  induction f with
  | zero => intro t listed a cs w h; simpa [Region.linearise.go, wpOpsS] using h.2
  | succ f ih =>
    intro t listed a cs w h
    obtain ⟨h0, h1⟩ := h
    rw [Region.linearise.go]
    change wpOpsS P ops Q (match (Region.ready .any ops listed)[t % (Region.ready .any ops listed).length]? with
      | some i => Region.linearise.go .any ops f (t / (Region.ready .any ops listed).length) (listed.setIfInBounds i true) [i]
      | none => [].reverse) a cs w
    cases hi : (Region.ready .any ops listed)[t % (Region.ready .any ops listed).length]? with
    | none =>
      have hnil : Region.ready .any ops listed = [] := by
        have hle := List.getElem?_eq_none_iff.1 hi
        by_cases hz : (Region.ready .any ops listed).length = 0
        · exact List.eq_nil_of_length_eq_zero hz
        · have := Nat.mod_lt t (Nat.pos_of_ne_zero hz)
          omega
      simpa [wpOpsS] using h0 hnil
    | some i =>
      simp only []
      rw [linearise_go_acc, List.reverse_singleton, List.singleton_append, wpOpsS_step]
      exact stepS_weaker (fun a cs w => ih _ _ a cs w) (h1 i (List.mem_of_getElem? hi))

theorem wpS_region_drawn {id : Nat} {a : Act} {cs : List Frame} {w : World} (hm : P.follows .mixedOrders = true)
    (h : anyS P ops Q ops.size (Array.replicate ops.size false) a cs w.drew) : (Code.region id ops true).wpS P Q a cs w := by
  intro b k hb hr
  have key : ∀ t, wpOpsS P ops Q (Region.schedule (P.follows .mixedOrders) ops t) a cs w.drew := fun t => by
    simp only [Region.schedule, hm, Bool.true_or, if_true]
    exact anyS_all ops.size t _ a cs _ h
  obtain ⟨e, a', cs', w', q, r⟩ := wp_opsS _ a cs _ (key (w.tape w.drawn (.order b.fn id))) b k hb hr
  exact ⟨e, a', cs', w', q, .of_steps (.one step_region_draw) r⟩

theorem stepS_value {i : Nat} {o : Oper} {K : Act → List Frame → World → Prop} {a : Act} {cs : List Frame} {w w' : World} {v : Value} (ho : ops[i]? = some o) (hg : o.guard = none)
    (hr : (execOp a.eval o).run P w = .ok (.value v) w') (h : K (a.put o.dst v) cs w') : stepS P ops Q i K a cs w := by
  unfold stepS
  simp only [ho, Region.wanted, hg, if_true, hr, Oper.upon]
  exact h
theorem stepS_skip {i : Nat} {o : Oper} {K : Act → List Frame → World → Prop} {a : Act} {cs : List Frame} {w w' : World} (ho : ops[i]? = some o) (hg : o.guard = none)
    (hr : (execOp a.eval o).run P w = .ok .skip w') (h : K (a.put o.dst undef) cs w') : stepS P ops Q i K a cs w := by
  unfold stepS
  simp only [ho, Region.wanted, hg, if_true, hr, Oper.upon]
  exact h
theorem stepS_recovered {i : Nat} {o : Oper} {K : Act → List Frame → World → Prop} {a : Act} {cs cs' : List Frame} {w w' : World} {v : Value} (ho : ops[i]? = some o) (hg : o.guard = none)
    (hr : (execOp a.eval o).run P w = .ok .recover w') (hc : recoverD cs = some (v, cs')) (h : K (a.put o.dst v) cs' w') : stepS P ops Q i K a cs w := by
  unfold stepS
  simp only [ho, Region.wanted, hg, if_true, hr, hc]
  exact h
theorem stepS_nothing {i : Nat} {o : Oper} {K : Act → List Frame → World → Prop} {a : Act} {cs : List Frame} {w w' : World} (ho : ops[i]? = some o) (hg : o.guard = none)
    (hr : (execOp a.eval o).run P w = .ok .recover w') (hc : recoverD cs = none) (h : K (a.put o.dst .nilIface) cs w') : stepS P ops Q i K a cs w := by
  unfold stepS
  simp only [ho, Region.wanted, hg, if_true, hr, hc]
  exact h
theorem stepS_calls {i : Nat} {o : Oper} {K : Act → List Frame → World → Prop} {a : Act} {cs : List Frame} {w w' : World} {f : FuncId} {args : Array Value} (ho : ops[i]? = some o) (hg : o.guard = none)
    (hr : (execOp a.eval o).run P w = .ok (.enter f args) w') (h : Calls P f args w' fun e w2 => ∃ v, e = .returned v ∧ K (a.put o.dst v) cs w2) : stepS P ops Q i K a cs w := by
  unfold stepS
  simp only [ho, Region.wanted, hg, if_true, hr, Oper.upon]
  refine h.mono fun e w2 hh => ?_
  obtain ⟨v, rfl, hk⟩ := hh
  exact hk

/-- The operations of a statement in the text's order. -/
def seqS (P : Program) (ops : Array Oper) (Q : Exit → Act → List Frame → World → Prop) (l : List Nat) (a : Act) (cs : List Frame) (w : World) : Prop := wpOpsS P ops Q l a cs w
theorem seqS_step {i : Nat} {rest : List Nat} {a : Act} {cs : List Frame} {w : World} (h : stepS P ops Q i (seqS P ops Q rest) a cs w) : seqS P ops Q (i :: rest) a cs w := by
  unfold seqS at h ⊢
  rw [wpOpsS_step]
  exact h
theorem seqS_end {a : Act} {cs : List Frame} {w : World} (h : Q .normal a cs w) : seqS P ops Q [] a cs w := h
theorem wpS_region_seq {id : Nat} {l : List Nat} {a : Act} {cs : List Frame} {w : World} (hl : List.range ops.size = l) (h : seqS P ops Q l a cs w) : (Code.region id ops false).wpS P Q a cs w := by
  subst hl
  exact wpS_region h

theorem anyS_step {rs : List Nat} {f : Nat} {listed : Array Bool} {a : Act} {cs : List Frame} {w : World} (hr : Region.ready .any ops listed = rs) (hne : rs ≠ [])
    (h : ∀ i ∈ rs, stepS P ops Q i (anyS P ops Q f (listed.setIfInBounds i true)) a cs w) : anyS P ops Q (f + 1) listed a cs w := ⟨fun h0 => absurd (hr ▸ h0) hne, hr ▸ h⟩
theorem anyS_end {listed : Array Bool} {a : Act} {cs : List Frame} {w : World} (hr : Region.ready .any ops listed = []) (h : Q .normal a cs w) : anyS P ops Q 0 listed a cs w := ⟨hr, h⟩
end
attribute [irreducible] stepS anyS seqS
end Go.Proofs.YtlagnebgoclaeaaGreatDoor
