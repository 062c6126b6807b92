/-
  The walk over the law SpanOps. Conditions: as each theorem states.
-/
import Derived.Test.YtjjjelgjjdgldaaDoorFace04
import Derived.Test.YtjjjelgjjdgldaaDoorRef04
namespace Go.Proofs.YtjjjelgjjdgldaaDoor
open Go.RowKit Span Evr

set_option maxRecDepth 100000 in
set_option maxHeartbeats 2000000 in
theorem ops_walk (o : Nat) (ho : o < 256) (s : ByteArray) (w : World) : Calls Tryd.prog 3 #[.int .u8 (o : Int), .string s] w fun e w' => e = .returned (.bool true) ∧ Kept (fun _ => False) w w' := by
  have hW := awake_walk
  have HK := Lib.hid (Kept.refl (fun _ => False) w)
  by_cases h : 100 < s.size
  · have n1 : (100 : Int) < (s.size : Int) := by omega
    go_enter Tryd.func3, Tryd.ntmps3
    go_wp2_with (go_at_call 10; with_reducible refine (hW _).mono ?_; rintro e w5 ⟨rfl, hk5⟩; have HK := Lib.hid (Kept.trans HK.out hk5 (fun _ _ h => h)); clear hk5)
    go_ret
    exact ⟨rfl, HK.out⟩
  · have n1 : ¬ (100 : Int) < (s.size : Int) := by omega
    have P1 := fun W => parse_k s (by omega) W
    have P2 := fun W => parse4 s W
    have M1 := fun W => may_k o ho W
    have M2 := fun W => may4 o ho W
    have T1 := fun W => text_k o ho W
    have T2 := fun W => text4 o ho W
    obtain ⟨p, q, hp⟩ : ∃ p q, parseL s.data.toList = (p, q) := ⟨_, _, rfl⟩
    rw [hp] at P1 P2
    generalize textO o = tx at T1 T2
    have e1 : (tx == tx) = true := by cases tx; exact beq_self_eq_true (α := Array UInt8) _
    generalize mayO o = mx at M1 M2
    clear hp
    go_enter Tryd.func3, Tryd.ntmps3
    go_wp2_with (first
      | (go_at_call 11; with_reducible refine (P1 _).mono ?_; rintro e w5 ⟨rfl, hk5⟩; have HK := Lib.hid (Kept.trans HK.out hk5 (fun _ _ h => h)); clear hk5)
      | (go_at_call 12; with_reducible refine (P2 _).mono ?_; rintro e w5 ⟨rfl, hk5⟩; have HK := Lib.hid (Kept.trans HK.out hk5 (fun _ _ h => h)); clear hk5)
      | (go_at_call 13; with_reducible refine (M1 _).mono ?_; rintro e w5 ⟨rfl, hk5⟩; have HK := Lib.hid (Kept.trans HK.out hk5 (fun _ _ h => h)); clear hk5)
      | (go_at_call 14; with_reducible refine (M2 _).mono ?_; rintro e w5 ⟨rfl, hk5⟩; have HK := Lib.hid (Kept.trans HK.out hk5 (fun _ _ h => h)); clear hk5)
      | (go_at_call 15; with_reducible refine (T1 _).mono ?_; rintro e w5 ⟨rfl, hk5⟩; have HK := Lib.hid (Kept.trans HK.out hk5 (fun _ _ h => h)); clear hk5)
      | (go_at_call 16; with_reducible refine (T2 _).mono ?_; rintro e w5 ⟨rfl, hk5⟩; have HK := Lib.hid (Kept.trans HK.out hk5 (fun _ _ h => h)); clear hk5)
      | (go_at_call 10; with_reducible refine (hW _).mono ?_; rintro e w5 ⟨rfl, hk5⟩; have HK := Lib.hid (Kept.trans HK.out hk5 (fun _ _ h => h)); clear hk5)
      | fail)
    go_ret
    exact ⟨rfl, HK.out⟩
end Go.Proofs.YtjjjelgjjdgldaaDoor
