/-
  The walk over the law RichTells, over contracts. Conditions: as each theorem states.
-/
import Derived.Test.YtfijhanfcppmgaaGreatDoorK09
import Derived.Test.YtfijhanfcppmgaaGreatDoorK26
import Derived.Test.YtfijhanfcppmgaaGreatDoorClass
namespace Go.Proofs.YtfijhanfcppmgaaGreatDoor
open Go.RowKit Rich
open Lex (join)

/-- What the document's Copy answers, and Texts. -/
def CopyK8 (w0 : World) : Prop := ∀ (x : R) (v : Value) (W : World), RichS W x v → smallX x → count x ≤ 2000 → Kept (fun _ => False) w0 W →
  Calls Tryz.prog 12 #[v] W fun e w' => (∃ v', e = .returned v' ∧ RichS w' x v') ∧ Kept (fun _ => False) W w'
def TextsK8 (w0 : World) : Prop := ∀ (va vb : Value) (xs : List ByteArray) (W : World), xs.length ≤ 1000000 → StrS W va xs → StrS W vb xs → Kept (fun _ => False) w0 W →
  Calls Tryz.prog 17 #[va, vb] W fun e w' => e = .returned (.bool true) ∧ Kept (fun _ => False) W w'
set_option maxRecDepth 100000 in
set_option maxHeartbeats 8000000 in
theorem richtells_big (w : World) (hAw : AwakeK8 w) (x : R) (v : Value) (hr : RichS w x v) (hf : fitsX x) (hm : (muchX x 0).2 = true) : Calls Tryz.prog 3 #[v] w fun e w' => e = .returned (.bool true) ∧ Kept (fun _ => False) w w' := by
  have AC := fun W (hk : Kept (fun _ => False) w W) => hAw W hk
  have L1 := fun W (hk : Kept (fun _ => False) w W) => large8_walk x v W (RichS.kept hk x v hr) hf
  rw [hm] at L1
  clear hAw hm
  obtain ⟨k, d, l⟩ := x
  rw [RichS] at hr
  obtain ⟨ao, cp, rfl, _⟩ := hr
  have HA := Lib.hid (Box.made w 28 (richA k d (.slice ao l.length cp)))
  have HK := Lib.hid ((Kept.refl (fun _ => False) w).alloc (.cells (richA k d (.slice ao l.length cp)) 28))
  go_enter Tryz.func3, Tryz.ntmps3
  go_wp2_with (first
    | (go_at_call 10; (with_reducible refine (L1 _ HK.out).mono ?_); rintro e w3 ⟨rfl, hk3⟩; have HK := Lib.hid (HK.out.trans hk3 (fun _ _ h => h)); have HA := Lib.hid (hk3.box HA.out (fun h => h)); have a0 := HA.out.cell 0; have a1 := HA.out.cell 1; have a2 := HA.out.cell 2; have a3 := HA.out.cell 3; have a4 := HA.out.cell 4; have a5 := HA.out.cell 5; have a6 := HA.out.cell 6; clear hk3)
    | (go_at_call 11; (with_reducible refine (AC _ HK.out).mono ?_); rintro e w12 ⟨rfl, hk12⟩; have HK := Lib.hid (HK.out.trans hk12 (fun _ _ h => h)); have HA := Lib.hid (hk12.box HA.out (fun h => h)); have a0 := HA.out.cell 0; have a1 := HA.out.cell 1; have a2 := HA.out.cell 2; have a3 := HA.out.cell 3; have a4 := HA.out.cell 4; have a5 := HA.out.cell 5; have a6 := HA.out.cell 6; clear hk12)
    | fail)
  go_ret
  exact ⟨rfl, HK.out⟩
set_option maxRecDepth 100000 in
set_option maxHeartbeats 8000000 in
theorem richtells_main (w : World) (hAw : AwakeK8 w) (hWo : WordsK8 w) (hSh : ShowK8 w) (hWh : WholeK8 w) (hCp : CopyK8 w) (hTx : TextsK8 w) (hD : WordsD8 w) (hM : MayR8 w) (x : R) (v : Value) (hr : RichS w x v) (hf : fitsX x) (hm : (muchX x 0).2 = false) : Calls Tryz.prog 3 #[v] w fun e w' => e = .returned (.bool true) ∧ Kept (fun _ => False) w w' := by
  have AC := fun W (hk : Kept (fun _ => False) w W) => hAw W hk
  have L1 := fun W (hk : Kept (fun _ => False) w W) => large8_walk x v W (RichS.kept hk x v hr) hf
  rw [hm] at L1
  obtain ⟨sx, cx⟩ := large_no hm
  have hMk : ∀ W, Kept (fun _ => False) w W → MayR8 W := fun W hk d W' h1 h2 h3 h4 h5 => hM d W' h1 h2 h3 h4 (hk.trans h5 (fun _ _ h => h))
  have CP := fun W (hk : Kept (fun _ => False) w W) => hCp x v W (RichS.kept hk x v hr) sx cx hk
  have W1 := fun W (hk : Kept (fun _ => False) w W) => hWo x v W (RichS.kept hk x v hr) sx cx hk
  have W2 := fun W (hk : Kept (fun _ => False) w W) => refwords8_walk w hD hM x v W hk (RichS.kept hk x v hr) sx cx
  have T1 := fun W (hk : Kept (fun _ => False) w W) => hSh x v W (RichS.kept hk x v hr) sx cx hk
  have T2 := fun W (hk : Kept (fun _ => False) w W) => refshow8_walk w hD hM x v W hk (RichS.kept hk x v hr) sx cx
  have H1 := fun W (hk : Kept (fun _ => False) w W) => hWh x v W (RichS.kept hk x v hr) sx cx hk
  have H2 := fun W (hk : Kept (fun _ => False) w W) => whole8_walk x v W (hMk W hk) (RichS.kept hk x v hr) sx (by omega)
  have hsm := (sameX_iff x x).2 rfl
  have SC := fun (v' : Value) W (hk : Kept (fun _ => False) w W) (hr' : RichS W x v') => same8_walk x x v v' W (RichS.kept hk x v hr) hr' hf
  rw [hsm] at SC
  have TC := fun (va vb : Value) W (hk : Kept (fun _ => False) w W) (ha : StrS W va (bytesV (if whole x = true then wordsR x else []))) (hb : StrS W vb (bytesV (if whole x = true then wordsR x else []))) => hTx va vb _ W (by
    split
    · rename_i h
      have := (join_small h).2
      simp [bytesV]
      omega
    · simp [bytesV]) ha hb hk
  generalize bytesV (if whole x = true then wordsR x else []) = X at *
  generalize (if whole x = true then (0 : Int) else 4) = er at *
  generalize whole x = bw at *
  generalize showN x = sn at *
  obtain ⟨st, se⟩ := sn
  simp only at T1 T2
  generalize (⟨st.toArray⟩ : ByteArray) = sb at *
  clear hAw hWo hSh hWh hCp hTx hD hM hMk sx cx hsm hf hm
  obtain ⟨k, d, l⟩ := x
  rw [RichS] at hr
  obtain ⟨ao, cp, rfl, _⟩ := hr
  have HA := Lib.hid (Box.made w 28 (richA k d (.slice ao l.length cp)))
  have HK := Lib.hid ((Kept.refl (fun _ => False) w).alloc (.cells (richA k d (.slice ao l.length cp)) 28))
  go_enter Tryz.func3, Tryz.ntmps3
  go_wp2_with (first
    | (go_at_call 10; (with_reducible refine (L1 _ HK.out).mono ?_); rintro e w3 ⟨rfl, hk3⟩; have HK := Lib.hid (HK.out.trans hk3 (fun _ _ h => h)); have HA := Lib.hid (hk3.box HA.out (fun h => h)); have a0 := HA.out.cell 0; have a1 := HA.out.cell 1; have a2 := HA.out.cell 2; have a3 := HA.out.cell 3; have a4 := HA.out.cell 4; have a5 := HA.out.cell 5; have a6 := HA.out.cell 6; clear hk3)
    | (go_at_call 12; (with_reducible refine (CP _ HK.out).mono ?_); rintro e w4 ⟨⟨v4, rfl, hv4⟩, hk4⟩; have HK := Lib.hid (HK.out.trans hk4 (fun _ _ h => h)); have HA := Lib.hid (hk4.box HA.out (fun h => h)); have a0 := fun ob => (HA.out.after_alloc ob).cell 0; have a1 := fun ob => (HA.out.after_alloc ob).cell 1; have a2 := fun ob => (HA.out.after_alloc ob).cell 2; have a3 := fun ob => (HA.out.after_alloc ob).cell 3; have a4 := fun ob => (HA.out.after_alloc ob).cell 4; have a5 := fun ob => (HA.out.after_alloc ob).cell 5; have a6 := fun ob => (HA.out.after_alloc ob).cell 6; have hv42 := hv4; rw [RichS] at hv42; obtain ⟨ao4, cp4, rfl, _⟩ := hv42; have HC := Lib.hid hv4; clear hv4 hk4)
    | (go_at_call 13; (with_reducible refine (W1 _ (HK.out.alloc _)).mono ?_); rintro e w5 ⟨⟨va, rfl, hs5⟩, hk5⟩; have HB := Lib.hid (hk5.box (Box.made w4 28 (richA k d (.slice ao4 l.length cp4))) (fun h => h)); have HA := Lib.hid (hk5.box (HA.out.after_alloc _) (fun h => h)); have a0 := HA.out.cell 0; have a1 := HA.out.cell 1; have a2 := HA.out.cell 2; have a3 := HA.out.cell 3; have a4 := HA.out.cell 4; have a5 := HA.out.cell 5; have a6 := HA.out.cell 6; have b0 := HB.out.cell 0; have b1 := HB.out.cell 1; have b2 := HB.out.cell 2; have b3 := HB.out.cell 3; have b4 := HB.out.cell 4; have b5 := HB.out.cell 5; have b6 := HB.out.cell 6; have HC := Lib.hid (RichS.kept (((Kept.refl (fun _ => False) w4).alloc _).trans hk5 (fun _ _ h => h)) _ _ HC.out); have HK := Lib.hid ((HK.out.alloc _).trans hk5 (fun _ _ h => h)); have HV := Lib.hid hs5; clear hs5 hk5)
    | (go_at_call 14; (with_reducible refine (W2 _ HK.out).mono ?_); rintro e w6 ⟨⟨vb, rfl, hs6⟩, hk6⟩; have HK := Lib.hid (HK.out.trans hk6 (fun _ _ h => h)); have HA := Lib.hid (hk6.box HA.out (fun h => h)); have a0 := HA.out.cell 0; have a1 := HA.out.cell 1; have a2 := HA.out.cell 2; have a3 := HA.out.cell 3; have a4 := HA.out.cell 4; have a5 := HA.out.cell 5; have a6 := HA.out.cell 6; have HB := Lib.hid (hk6.box HB.out (fun h => h)); have b0 := HB.out.cell 0; have b1 := HB.out.cell 1; have b2 := HB.out.cell 2; have b3 := HB.out.cell 3; have b4 := HB.out.cell 4; have b5 := HB.out.cell 5; have b6 := HB.out.cell 6; have HC := Lib.hid (RichS.kept hk6 _ _ HC.out); have HV := Lib.hid (HV.out.kept hk6 (fun _ _ _ _ h => h)); have HU := Lib.hid hs6; clear hs6; clear hk6)
    | (go_at_call 15; (with_reducible refine (T1 _ HK.out).mono ?_); rintro e w7 ⟨rfl, hk7⟩; have HK := Lib.hid (HK.out.trans hk7 (fun _ _ h => h)); have HA := Lib.hid (hk7.box HA.out (fun h => h)); have a0 := HA.out.cell 0; have a1 := HA.out.cell 1; have a2 := HA.out.cell 2; have a3 := HA.out.cell 3; have a4 := HA.out.cell 4; have a5 := HA.out.cell 5; have a6 := HA.out.cell 6; have HB := Lib.hid (hk7.box HB.out (fun h => h)); have b0 := HB.out.cell 0; have b1 := HB.out.cell 1; have b2 := HB.out.cell 2; have b3 := HB.out.cell 3; have b4 := HB.out.cell 4; have b5 := HB.out.cell 5; have b6 := HB.out.cell 6; have HC := Lib.hid (RichS.kept hk7 _ _ HC.out); have HV := Lib.hid (HV.out.kept hk7 (fun _ _ _ _ h => h)); have HU := Lib.hid (HU.out.kept hk7 (fun _ _ _ _ h => h)); clear hk7)
    | (go_at_call 16; (with_reducible refine (T2 _ HK.out).mono ?_); rintro e w8 ⟨rfl, hk8⟩; have HK := Lib.hid (HK.out.trans hk8 (fun _ _ h => h)); have HA := Lib.hid (hk8.box HA.out (fun h => h)); have a0 := HA.out.cell 0; have a1 := HA.out.cell 1; have a2 := HA.out.cell 2; have a3 := HA.out.cell 3; have a4 := HA.out.cell 4; have a5 := HA.out.cell 5; have a6 := HA.out.cell 6; have HB := Lib.hid (hk8.box HB.out (fun h => h)); have b0 := HB.out.cell 0; have b1 := HB.out.cell 1; have b2 := HB.out.cell 2; have b3 := HB.out.cell 3; have b4 := HB.out.cell 4; have b5 := HB.out.cell 5; have b6 := HB.out.cell 6; have HC := Lib.hid (RichS.kept hk8 _ _ HC.out); have HV := Lib.hid (HV.out.kept hk8 (fun _ _ _ _ h => h)); have HU := Lib.hid (HU.out.kept hk8 (fun _ _ _ _ h => h)); clear hk8)
    | fail)
  obtain ⟨T, F, t0, ht0, hFk, hFs⟩ := class_of w8
  have fA := fun t => (hFk t).box HA.out (fun h => h)
  have fB := fun t => (hFk t).box HB.out (fun h => h)
  have fK := fun t => HK.out.trans (hFk t) (fun _ _ h => h)
  have qa0 := fun t => (fA t).cell 0
  have qb0 := fun t => (fB t).cell 0
  have qa1 := fun t => (fA t).cell 1
  have qb1 := fun t => (fB t).cell 1
  have qa2 := fun t => (fA t).cell 2
  have qb2 := fun t => (fB t).cell 2
  have qa3 := fun t => (fA t).cell 3
  have qb3 := fun t => (fB t).cell 3
  have qa4 := fun t => (fA t).cell 4
  have qb4 := fun t => (fB t).cell 4
  have qa5 := fun t => (fA t).cell 5
  have qb5 := fun t => (fB t).cell 5
  have qa6 := fun t => (fA t).cell 6
  have qb6 := fun t => (fB t).cell 6
  have X1 := fun t => TC va vb (F t) (fK t) (HV.out.kept (hFk t) (fun _ _ _ _ h => h)) (HU.out.kept (hFk t) (fun _ _ _ _ h => h))
  have X2 := fun t => H1 (F t) (fK t)
  have X3 := fun t => H2 (F t) (fK t)
  have X4 := fun t => SC _ (F t) (fK t) (RichS.kept (hFk t) _ _ HC.out)
  have X5 := fun t => AC (F t) (fK t)
  have HFK := Lib.hid fK
  have HFS := Lib.hid hFs
  clear hFk hFs fA fB fK TC H1 H2 SC AC T1 T2 W1 W2 CP L1
  have hne : Nonempty T := ⟨t0⟩
  refine wp_region_class F t0 ht0 (by kernel_rfl) (by kernel_rfl) ?_
  repeat (go_big_quiet_step (first
    | (go_at_call 17; with_reducible exact class_call HFS.out (X1 _))
    | (go_at_call 18; with_reducible exact class_call HFS.out (X2 _))
    | (go_at_call 19; with_reducible exact class_call HFS.out (X3 _))
    | (go_at_call 20; with_reducible exact class_call HFS.out (X4 _))
    | (go_at_call 11; with_reducible exact class_call HFS.out (X5 _))
    ))
  refine wpQuiet_nil ?_
  rintro _ ⟨tz, rfl⟩
  have hkz := HFK.out tz
  go_wp2_with fail
  go_ret
  exact ⟨rfl, hkz⟩
theorem richtells_walk (w : World) (hAw : AwakeK8 w) (hWo : WordsK8 w) (hSh : ShowK8 w) (hWh : WholeK8 w) (hCp : CopyK8 w) (hTx : TextsK8 w) (hD : WordsD8 w) (hM : MayR8 w) (x : R) (v : Value) (hr : RichS w x v) (hf : fitsX x) : Calls Tryz.prog 3 #[v] w fun e w' => e = .returned (.bool true) ∧ Kept (fun _ => False) w w' := by
  by_cases hm : (muchX x 0).2 = true
  · exact richtells_big w hAw x v hr hf hm
  · exact richtells_main w hAw hWo hSh hWh hCp hTx hD hM x v hr hf (by simpa using hm)
end Go.Proofs.YtfijhanfcppmgaaGreatDoor
