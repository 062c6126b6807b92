/-
  The walk over the law RichWhole, over what the program's rich answers. Conditions: as each theorem states.
-/
import Derived.Test.YtfijhanfcppmgaaGreatDoorK09
namespace Go.Proofs.YtfijhanfcppmgaaGreatDoor
open Go.RowKit Rich

set_option maxRecDepth 100000 in
set_option maxHeartbeats 4000000 in
theorem richwhole_big (w : World) (hAw : AwakeK8 w) (s : ByteArray) (h : (4000 : Int) < (s.size : Int)) :
    Calls Tryz.prog 7 #[.string s] w fun e w' => e = .returned (.bool true) ∧ Kept (fun _ => False) w w' := by
  have AC := fun W (hk : Kept (fun _ => False) w W) => hAw W hk
  have HK := Lib.hid (Kept.refl (fun _ => False) w)
  go_enter Tryz.func7, Tryz.ntmps7
  go_wp2_with (first
    | (go_at_call 11; (with_reducible refine (AC _ HK.out).mono ?_); rintro e w3 ⟨rfl, hk3⟩; have HK := Lib.hid (Kept.trans HK.out hk3 (fun _ _ h => h)); clear hk3)
    | fail)
  go_ret
  exact ⟨rfl, HK.out⟩
set_option maxRecDepth 100000 in
set_option maxHeartbeats 4000000 in
theorem richwhole_err (w : World) (hAw : AwakeK8 w) (hP : ParseK8 w) (s : ByteArray) (h : ¬ (4000 : Int) < (s.size : Int)) (p : Nat) (er : Int) (ha : ansR s.data.toList = (.mk 0 zD [], p, er)) (hp : (p : Int) ≤ (s.size : Int)) (he : er = 4 ∨ er = 21 ∨ er = 40) :
    Calls Tryz.prog 7 #[.string s] w fun e w' => e = .returned (.bool true) ∧ Kept (fun _ => False) w w' := by
  have AC := fun W (hk : Kept (fun _ => False) w W) => hAw W hk
  have PC := fun W (hk : Kept (fun _ => False) w W) => hP s W (by omega) hk
  rw [ha] at PC
  have hp0 : (0 : Int) ≤ (p : Int) := by omega
  have HK := Lib.hid (Kept.refl (fun _ => False) w)
  clear ha hP hAw
  rcases he with rfl | rfl | rfl
  all_goals
    go_enter Tryz.func7, Tryz.ntmps7
    go_wp2_with (first
      | (go_at_call 11; (with_reducible refine (AC _ HK.out).mono ?_); rintro e w3 ⟨rfl, hk3⟩; have HK := Lib.hid (Kept.trans HK.out hk3 (fun _ _ h => h)); clear hk3)
      | (go_at_call 21; (with_reducible refine (PC _ HK.out).mono ?_); rintro e w5 ⟨⟨v5, rfl, hv5⟩, hk5⟩; have HK := Lib.hid (Kept.trans HK.out hk5 (fun _ _ h => h)); have hv52 := hv5; rw [RichS] at hv52; obtain ⟨ao5, cp5, rfl, _⟩ := hv52; have HX := Lib.hid hv5; clear hv5 hk5)
      | fail)
    go_ret
    exact ⟨rfl, HK.out.alloc _⟩
theorem wide_list (s : ByteArray) : (⟨#[32, 32]⟩ ++ s ++ ⟨#[32]⟩ : ByteArray).data.toList = [32, 32] ++ s.data.toList ++ [32] := by simp [ByteArray.data_append]
set_option maxRecDepth 100000 in
set_option maxHeartbeats 4000000 in
theorem richwhole_ok (w : World) (hAw : AwakeK8 w) (hP : ParseK8 w) (hW : WholeK8 w) (s : ByteArray) (h : s.size ≤ 4000) (x : R) (hx : parseF s.data.toList = .ok x) :
    Calls Tryz.prog 7 #[.string s] w fun e w' => e = .returned (.bool true) ∧ Kept (fun _ => False) w w' := by
  have AC := fun W (hk : Kept (fun _ => False) w W) => hAw W hk
  have P1 := fun W (hk : Kept (fun _ => False) w W) => hP s W (by omega) hk
  have P2 := fun W (hk : Kept (fun _ => False) w W) => hP (⟨#[32, 32]⟩ ++ s ++ ⟨#[32]⟩) W (by rw [ByteArray.size_append, ByteArray.size_append]; show 2 + s.size + 1 ≤ _; omega) hk
  have h2 : parseF (⟨#[32, 32]⟩ ++ s ++ ⟨#[32]⟩ : ByteArray).data.toList = .ok x := by rw [wide_list]; exact parse_spaces hx (show s.size ≤ 4000 from h)
  rw [ans_ok hx] at P1
  rw [ans_ok h2] at P2
  have hwx := (parse_ok8 hx).1
  obtain ⟨q1, q2, q3⟩ := whole_iff.1 hwx
  obtain ⟨s1, s2⟩ := part_small x q1 (by omega)
  have hsm := (sameX_iff x x).2 rfl
  have WC := fun (v : Value) W (hr : RichS W x v) (hk : Kept (fun _ => False) w W) => hW x v W hr s1 (by omega) hk
  have SC := fun (v v' : Value) W (hr : RichS W x v) (hr' : RichS W x v') => same8_walk x x v v' W hr hr' s2
  rw [hwx] at WC
  rw [hsm] at SC
  have n1 : ¬ (4000 : Int) < (s.size : Int) := by omega
  have HK := Lib.hid (Kept.refl (fun _ => False) w)
  clear hx h2 hwx q1 q2 q3 s1 s2 hsm hP hW hAw
  obtain ⟨k, d, l⟩ := x
  go_enter Tryz.func7, Tryz.ntmps7
  go_wp2_with (first
    | (go_at_call 11; (with_reducible refine (AC _ HK.out).mono ?_); rintro e w3 ⟨rfl, hk3⟩; have HK := Lib.hid (Kept.trans HK.out hk3 (fun _ _ h => h)); clear hk3)
    | (go_at_call 21; (with_reducible refine (P1 _ HK.out).mono ?_); rintro e w5 ⟨⟨v5, rfl, hv5⟩, hk5⟩; have HK := Lib.hid (Kept.trans HK.out hk5 (fun _ _ h => h)); have hv52 := hv5; rw [RichS] at hv52; obtain ⟨ao5, cp5, rfl, _⟩ := hv52; have HX := Lib.hid hv5; clear hv5 hk5)
    | fail)
  have HBX := Lib.hid (Box.made w5 28 (richA k d (.slice ao5 l.length cp5)))
  have HX := Lib.hid (RichS.kept ((Kept.refl (fun _ => False) w5).alloc (.cells (richA k d (.slice ao5 l.length cp5)) 28)) _ _ HX.out)
  have HK := Lib.hid (HK.out.alloc (.cells (richA k d (.slice ao5 l.length cp5)) 28))
  go_wp2_with (first
    | (go_at_call 21; (with_reducible refine (P2 _ HK.out).mono ?_); rintro e w6 ⟨⟨v6, rfl, hv6⟩, hk6⟩; have HK := Lib.hid (Kept.trans HK.out hk6 (fun _ _ h => h)); have HBX := Lib.hid (hk6.box HBX.out (fun h => h)); have HX := Lib.hid (RichS.kept hk6 _ _ HX.out); have x0 := fun ob => (HBX.out.after_alloc ob).cell 0; have x1 := fun ob => (HBX.out.after_alloc ob).cell 1; have x2 := fun ob => (HBX.out.after_alloc ob).cell 2; have x3 := fun ob => (HBX.out.after_alloc ob).cell 3; have x4 := fun ob => (HBX.out.after_alloc ob).cell 4; have x5 := fun ob => (HBX.out.after_alloc ob).cell 5; have x6 := fun ob => (HBX.out.after_alloc ob).cell 6; have hv62 := hv6; rw [RichS] at hv62; obtain ⟨ao6, cp6, rfl, _⟩ := hv62; have HY := Lib.hid hv6; clear hv6 hk6)
    | (go_at_call 18; refine (WC _ _ (RichS.kept ((Kept.refl _ _).alloc _) _ _ HX.out) (HK.out.alloc _)).mono ?_; rintro e w7 ⟨rfl, hk7⟩; have HBX := Lib.hid (hk7.box (HBX.out.after_alloc _) (fun h => h)); have HBY := Lib.hid (hk7.box (Box.made w6 28 (richA k d (.slice ao6 l.length cp6))) (fun h => h)); have x0 := HBX.out.cell 0; have y0 := HBY.out.cell 0; have x1 := HBX.out.cell 1; have y1 := HBY.out.cell 1; have x2 := HBX.out.cell 2; have y2 := HBY.out.cell 2; have x3 := HBX.out.cell 3; have y3 := HBY.out.cell 3; have x4 := HBX.out.cell 4; have y4 := HBY.out.cell 4; have x5 := HBX.out.cell 5; have y5 := HBY.out.cell 5; have x6 := HBX.out.cell 6; have y6 := HBY.out.cell 6; have HX := Lib.hid (RichS.kept (((Kept.refl (fun _ => False) w6).alloc _).trans hk7 (fun _ _ h => h)) _ _ HX.out); have HY := Lib.hid (RichS.kept (((Kept.refl (fun _ => False) w6).alloc _).trans hk7 (fun _ _ h => h)) _ _ HY.out); have HK := Lib.hid ((HK.out.alloc _).trans hk7 (fun _ _ h => h)); clear hk7)
    | (go_at_call 20; refine (SC _ _ _ HY.out HX.out).mono ?_; rintro e w8 ⟨rfl, hk8⟩; have HK := Lib.hid (HK.out.trans hk8 (fun _ _ h => h)); clear hk8)
    | fail)
  go_ret
  exact ⟨rfl, HK.out⟩
theorem richwhole_walk (w : World) (hAw : AwakeK8 w) (hP : ParseK8 w) (hW : WholeK8 w) (s : ByteArray) : Calls Tryz.prog 7 #[.string s] w fun e w' => e = .returned (.bool true) ∧ Kept (fun _ => False) w w' := by
  by_cases h : 4000 < s.size
  · exact richwhole_big w hAw s (by omega)
  · cases hx : parseF s.data.toList with
    | ok x => exact richwhole_ok w hAw hP hW s (by omega) x hx
    | error y =>
      obtain ⟨h1, h2⟩ := parse_err8 hx
      have e : s.data.toList.length = s.size := rfl
      exact richwhole_err w hAw hP s (by omega) y.1 y.2 (ans_err hx) (by omega) h2
end Go.Proofs.YtfijhanfcppmgaaGreatDoor
