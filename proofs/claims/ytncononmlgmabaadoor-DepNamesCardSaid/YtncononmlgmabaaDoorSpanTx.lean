/-
  The walks over the program's own text of layer 4: which Ops may be, an Op's text, the Op of a text. Conditions: as each theorem states.
-/
import Derived.Test.YtncononmlgmabaaDoorSpan4b
namespace Go.Proofs.YtncononmlgmabaaDoor
open Go.RowKit Go.Maps Span

theorem field_of (a : Bool) (b : ByteArray) (W : World) : (Instr.field 64 (.agg #[.bool a, .string b]) 0).run Tryd.prog W = .ok (.bool a) W ∧ (Instr.field 64 (.agg #[.bool a, .string b]) 1).run Tryd.prog W = .ok (.string b) W := by
  constructor <;> kernel_rfl
theorem may_k (o : Nat) (ho : o < 256) (w : World) : Calls Tryd.prog 22 #[.int .u8 (o : Int)] w fun e w' => e = .returned (.bool (mayO o)) ∧ Kept (fun _ => False) w w' := by
  have hF := find_walk o ho
  have hD := fun a b W => (field_of a b W).1
  go_enter Tryd.func22, Tryd.ntmps22
  go_wp2_with (go_at_call 36; with_reducible refine (hF _).mono ?_; rintro e w1 ⟨rfl, hk1⟩)
  go_ret
  exact ⟨rfl, hk1⟩
theorem text_k (o : Nat) (ho : o < 256) (w : World) : Calls Tryd.prog 35 #[.int .u8 (o : Int)] w fun e w' => e = .returned (.string (textO o)) ∧ Kept (fun _ => False) w w' := by
  have hF := find_walk o ho
  have hD := fun a b W => (field_of a b W).2
  go_enter Tryd.func35, Tryd.ntmps35
  go_wp2_with (go_at_call 36; with_reducible refine (hF _).mono ?_; rintro e w1 ⟨rfl, hk1⟩)
  go_ret
  exact ⟨rfl, hk1⟩
theorem parse_at (l : List UInt8) : opsD.atKey (.string l) (.lit (.int .u8 0)) = .lit (.int .u8 ((parseL l).1 : Int)) ∧ Maps.has opsD (.string l) = (parseL l).2 := by
  by_cases e1 : l = []
  · subst e1; exact ⟨rfl, rfl⟩
  by_cases e2 : l = [60]
  · subst e2; exact ⟨rfl, rfl⟩
  by_cases e3 : l = [60, 61]
  · subst e3; exact ⟨rfl, rfl⟩
  by_cases e4 : l = [61]
  · subst e4; exact ⟨rfl, rfl⟩
  by_cases e5 : l = [62]
  · subst e5; exact ⟨rfl, rfl⟩
  by_cases e6 : l = [62, 61]
  · subst e6; exact ⟨rfl, rfl⟩
  have g : ∀ k : List UInt8, ¬ l = k → (k == l) = false := fun k hk => beq_eq_false_iff_ne.2 (fun e => hk e.symm)
  constructor
  · simp only [opsD, DataW.atKey, List.find?, Lit.sameKey, g _ e1, g _ e2, g _ e3, g _ e4, g _ e5, g _ e6, parseL, e1, e2, e3, e4, e5, e6, if_false]
    rfl
  · simp only [opsD, Maps.has, List.any, Lit.sameKey, g _ e1, g _ e2, g _ e3, g _ e4, g _ e5, g _ e6, parseL, e1, e2, e3, e4, e5, e6, if_false]
    rfl
set_option maxRecDepth 100000 in
theorem parse_k (s : ByteArray) (hs : s.size ≤ 1000000) (w : World) : Calls Tryd.prog 39 #[.string s] w fun e w' => e = .returned (.tuple #[.int .u8 ((parseL s.data.toList).1 : Int), .bool (parseL s.data.toList).2]) ∧ Kept (fun _ => False) w w' := by
  have hkey := key_of s (by unfold maxLen; omega)
  have hP := parse_at s.data.toList
  rw [hP.2.symm]
  have HP := Lib.hid hP.1
  have zeroE : ∀ w : World, (zeroValue 5).run Tryd.prog w = .ok (.int .u8 0) w := fun w => by kernel_rfl
  clear hP
  go_enter Tryd.func39, Tryd.ntmps39
  go_wp2_with (first
    | (go_at_call 54; refine (map_walk _).mono ?_; rintro e w1 ⟨rfl, hm1, hk1⟩; have HM := Lib.hid hm1; have HK := Lib.hid hk1; clear hm1 hk1)
    | (at_lookup; refine wpList_lookup_own_ok_int _ rfl _ _ 82 rfl 9 5 .u8 key_law Tryd.underlying82 Tryd.underlying5 (zeroE _) _ 6 _ rfl HM.out _ _ rfl hkey ?_; intro c hat hwc)
    | go_in)
  go_ret2
  have := HP.out
  rw [hat] at this
  injection this with this
  injection this with _ this
  rw [this]
  exact ⟨rfl, HK.out⟩
/-- A dependency. -/
abbrev depV (nm : ByteArray) (o : Nat) (n : Int) (v r : ByteArray) : Value := .agg #[.string nm, .int .u8 (o : Int), .int .i64 n, .string v, .string r]
end Go.Proofs.YtncononmlgmabaaDoor
