/-
  What the walks ask of the program's May, Show and Parse of EVRs, and what these answer. The walks over the program's own text of layer 6, and over the document's answer: which dependencies may be. Conditions: the array of words that are no names lies as the program's text lays it. Conditions: as each theorem states.
-/
import Derived.Test.YtoebokgpdkklmaaGreatDoorK13
import Derived.Test.YtoebokgpdkklmaaGreatDoorRows
import Derived.Handy
import Derived.Lib.Hide
import Derived.WalkKit
import Derived.Test.YtoebokgpdkklmaaGreatDoorK14
import Derived.Test.YtoebokgpdkklmaaGreatDoorK17
import Derived.Test.YtoebokgpdkklmaaGreatDoorK16
namespace Go.Proofs.YtoebokgpdkklmaaGreatDoor
open Go.RowKit Ver Evr

theorem bytes_ext {x y : ByteArray} (h : x.data.toList = y.data.toList) : x = y := ByteArray.ext (Array.ext' h)
theorem box_off {w : World} {g : Nat} {t : TypeId} {cs : Array Value} (h : Box w g t cs) (p : Addr) (hne : g ≠ p.block) (u : Value) : Box (w.setCell p u) g t cs := (Below.heap_setCell w p u g hne).trans h
abbrev zeroE : Array Value := #[.int .i64 0, .string ⟨#[]⟩, .string ⟨#[]⟩]
theorem app_list3 (x y : ByteArray) : (x ++ y).data.toList = x.data.toList ++ y.data.toList := by simp [ByteArray.data_append]
/-- What Show answers. -/
def showR (n : Int) (v r : ByteArray) : Value := if mayE (evrE n v r) true = true then .tuple #[.string ⟨(showE (evrE n v r)).toArray⟩, .int .i64 0] else .tuple #[.string ⟨#[]⟩, .int .i64 4]
theorem show_no {n : Int} {v r : ByteArray} (h : mayE (evrE n v r) true = false) : showR n v r = .tuple #[.string ⟨#[]⟩, .int .i64 4] := by unfold showR; rw [h]; rfl
theorem bytes_of (s : ByteArray) : s = ⟨s.data.toList.toArray⟩ := by cases s; simp
theorem show_yes {n : Int} {v r t : ByteArray} (h : mayE (evrE n v r) true = true) (ht : t.data.toList = showE (evrE n v r)) : showR n v r = .tuple #[.string t, .int .i64 0] := by
  unfold showR
  rw [h, if_pos rfl, ← ht, ← bytes_of]

/-- What Parse answers. -/
def parseV : Option E → Value
  | some e => .tuple #[.agg #[.int .i64 e.epoch, .string ⟨e.ver.toArray⟩, .string ⟨e.rel.toArray⟩], .int .i64 0]
  | none => .tuple #[.agg #[.int .i64 0, .string ⟨#[]⟩, .string ⟨#[]⟩], .int .i64 4]
def parseA (s : List UInt8) : Value := parseV (parseE s)
theorem three {w w3 : World} (h : Kept (fun _ => False) w w3) (a b c : Value) : Kept (fun _ => False) w (((w3.setCell ⟨w.heap.size, 0, none⟩ a).setCell ⟨w.heap.size, 1, none⟩ b).setCell ⟨w.heap.size, 2, none⟩ c) :=
  ((h.setCell (p := ⟨w.heap.size, 0, none⟩) (.inr (Nat.le_refl _)) _).setCell (p := ⟨w.heap.size, 1, none⟩) (.inr (Nat.le_refl _)) _).setCell (p := ⟨w.heap.size, 2, none⟩) (.inr (Nat.le_refl _)) _
def MayK3 : Prop := ∀ (n : Int) (v r : ByteArray) (dep : Bool) (w : World), v.size ≤ 1000000 → r.size ≤ 1000000 →
  Calls Tryz.prog 53 #[.agg #[.int .i64 n, .string v, .string r], .bool dep] w fun e w' => e = .returned (.bool (mayE (evrE n v r) dep)) ∧ Kept (fun _ => False) w w'
def ShowK3 (w0 : World) : Prop := ∀ (n : Int) (v r : ByteArray) (w : World), v.size ≤ 1000000 → r.size ≤ 1000000 → Kept (fun _ => False) w0 w →
  Calls Tryz.prog 45 #[.agg #[.int .i64 n, .string v, .string r]] w fun e w' => e = .returned (showR n v r) ∧ Kept (fun _ => False) w w'
def ParseK3 (w0 : World) : Prop := ∀ (s : ByteArray) (w : World), s.size ≤ 1000000 → Kept (fun _ => False) w0 w →
  Calls Tryz.prog 90 #[.string s] w fun e w' => e = .returned (parseA s.data.toList) ∧ Kept (fun _ => False) w w'
/-- What Parse answers, in its parts: an EVR that reads as the plain one, or nothing and ErrForm. -/
theorem parse_parts (s : List UInt8) : ∃ (n : Int) (v r : ByteArray) (er : Int), parseA s = .tuple #[.agg #[.int .i64 n, .string v, .string r], .int .i64 er] ∧
    ((er = 0 ∧ parseE s = some (evrE n v r)) ∨ (er = 4 ∧ n = 0 ∧ v = ⟨#[]⟩ ∧ r = ⟨#[]⟩ ∧ parseE s = none)) := by
  unfold parseA
  cases hp : parseE s with
  | none => exact ⟨0, ⟨#[]⟩, ⟨#[]⟩, 4, rfl, .inr ⟨rfl, rfl, rfl, rfl, rfl⟩⟩
  | some e => exact ⟨e.epoch, ⟨e.ver.toArray⟩, ⟨e.rel.toArray⟩, 0, rfl, .inl ⟨rfl, rfl⟩⟩
theorem parse_sizes {s : List UInt8} {n : Int} {v r : ByteArray} (h : parseE s = some (evrE n v r)) : v.size ≤ 64 ∧ r.size ≤ 64 ∧ 0 ≤ n ∧ n ≤ 2147483647 := by
  obtain ⟨h1, h2, h3, h4⟩ := may_parts (show_parse h).1
  have h5 := (word_ok h3).2.2
  refine ⟨h5, ?_, h1, h2⟩
  rcases h4 with h4 | h4
  · have : r.data.toList.length = r.size := rfl
    rw [← this, show r.data.toList = [] from h4]; simp
  · exact (word_ok h4).2.2
/-- A struct in the result's cell. -/
theorem evr_result {fn : Func} {p : Tmp} (h : fn.results = #[.cell p 23]) (tmps : Array Value) (W : World) (g : Nat) (cs : Array Value) (hp : tmps.getD p undef = .pointer (some ⟨g, 0, none⟩)) (hB : Box W g 23 cs) (hs : cs.size = 3) :
    (results fn tmps).run Tryz.prog W = .ok (.agg cs) W :=
  results_cell_row h tmps W g 23 cs (0, 0) _ hp hB Tryz.underlying23 rfl (by rw [hs]; kernel_rfl)
end Go.Proofs.YtoebokgpdkklmaaGreatDoor

namespace Go.Proofs.YtoebokgpdkklmaaGreatDoor
open Go.RowKit Ver Evr Span Dep

/-- A dependency as the program has it. -/
abbrev dD (nm : ByteArray) (o : Nat) (n : Int) (v r : ByteArray) : D := ⟨nm.data.toList, o, evrE n v r⟩
theorem same_kept {P : Program} {f : FuncId} {args : Array Value} {w : World} {v : Value} (h : Calls P f args w fun e w' => e = .returned v ∧ w' = w) : Calls P f args w fun e w' => e = .returned v ∧ Kept (fun _ => False) w w' :=
  h.mono fun _ _ ⟨h1, h2⟩ => ⟨h1, by rw [h2]; exact Kept.refl _ _⟩
theorem may_name {nm : ByteArray} {o : Nat} {n : Int} {v r : ByteArray} (h : nameD nm.data.toList = false) : mayD (dD nm o n v r) = false := by unfold mayD; simp [h]
theorem may_op0 {nm : ByteArray} {o : Nat} {n : Int} {v r : ByteArray} (h : mayO o = false) : mayD (dD nm o n v r) = false := by unfold mayD; simp [h]
theorem may_none {nm : ByteArray} {n : Int} {v r : ByteArray} (h : nameD nm.data.toList = true) : mayD (dD nm 0 n v r) = noE (evrE n v r) := by rw [may_any, h, Bool.true_and]
theorem may_some {nm : ByteArray} {o : Nat} {n : Int} {v r : ByteArray} (h : nameD nm.data.toList = true) (ho : mayO o = true) (h0 : o ≠ 0) : mayD (dD nm o n v r) = (!fileD nm.data.toList && mayE (evrE n v r) true) := by rw [may_op h0, h, ho, Bool.true_and, Bool.true_and]
theorem noE_cases (n : Int) (v r : ByteArray) : (n = 0 ∧ v = ⟨#[]⟩ ∧ r = ⟨#[]⟩ ∧ noE (evrE n v r) = true) ∨ (noE (evrE n v r) = false ∧ (n ≠ 0 ∨ (n = 0 ∧ v ≠ ⟨#[]⟩) ∨ (n = 0 ∧ v = ⟨#[]⟩ ∧ r ≠ ⟨#[]⟩))) := by
  by_cases h1 : n = 0
  · by_cases h2 : v = ⟨#[]⟩
    · by_cases h3 : r = ⟨#[]⟩
      · exact .inl ⟨h1, h2, h3, by subst h1; subst h2; subst h3; rfl⟩
      · exact .inr ⟨by unfold noE evrE; simp; intro _ _ h; exact h3 (ByteArray.ext h), .inr (.inr ⟨h1, h2, h3⟩)⟩
    · exact .inr ⟨by unfold noE evrE; simp; intro _ h; exact absurd (ByteArray.ext h) h2, .inr (.inl ⟨h1, h2⟩)⟩
  · exact .inr ⟨by unfold noE evrE; simp [h1], .inl h1⟩

theorem isEmpty_ne {r : ByteArray} (h : r ≠ ⟨#[]⟩) : r.toList.isEmpty = false := by
  cases hr : r.toList with
  | nil => exact absurd hr (text_ne h).2
  | cons _ _ => rfl
set_option maxRecDepth 100000 in
set_option maxHeartbeats 2000000 in
theorem may6p_A (nm : ByteArray) (o : Nat) (n : Int) (v r : ByteArray) (w : World) (hN : (∀ W, Kept (fun _ => False) w W → Calls Tryz.prog 50 #[.string nm] W fun e w' => e = .returned (.bool false) ∧ Kept (fun _ => False) W w')) : Calls Tryz.prog 37 #[.agg #[.string nm, .int .u8 (o : Int), .int .i64 n, .string v, .string r]] w fun e w' => e = .returned (.bool false) ∧ Kept (fun _ => False) w w' := by
    have HA := Lib.hid (Box.made w 25 #[.string nm, .int .u8 (o : Int), .int .i64 n, .string v, .string r])
    have HK := Lib.hid ((Kept.refl (fun _ => False) w).alloc (.cells #[.string nm, .int .u8 (o : Int), .int .i64 n, .string v, .string r] 25))
    go_enter Tryz.func37, Tryz.ntmps37
    go_wp2_with (first
      | (go_at_call 50; with_reducible refine (hN _ HK.out).mono ?_; rintro e w5 ⟨rfl, hk5⟩; have HA := Lib.hid (hk5.box HA.out (fun h => h)); have HK := Lib.hid (Kept.trans HK.out hk5 (fun _ _ h => h)); have ax0 := HA.out.cell 0; have ax1 := HA.out.cell 1; have ax2 := HA.out.cell 2; have ax3 := HA.out.cell 3; have ax4 := HA.out.cell 4; clear hk5)
      | fail)
    go_ret
    exact ⟨rfl, HK.out⟩
set_option maxRecDepth 100000 in
set_option maxHeartbeats 2000000 in
theorem may6p_B (nm : ByteArray) (o : Nat) (n : Int) (v r : ByteArray) (w : World) (hN : (∀ W, Kept (fun _ => False) w W → Calls Tryz.prog 50 #[.string nm] W fun e w' => e = .returned (.bool true) ∧ Kept (fun _ => False) W w')) (hS : (∀ W, Kept (fun _ => False) w W → Calls Tryz.prog 51 #[.int .u8 (o : Int)] W fun e w' => e = .returned (.bool false) ∧ Kept (fun _ => False) W w')) : Calls Tryz.prog 37 #[.agg #[.string nm, .int .u8 (o : Int), .int .i64 n, .string v, .string r]] w fun e w' => e = .returned (.bool false) ∧ Kept (fun _ => False) w w' := by
    have HA := Lib.hid (Box.made w 25 #[.string nm, .int .u8 (o : Int), .int .i64 n, .string v, .string r])
    have HK := Lib.hid ((Kept.refl (fun _ => False) w).alloc (.cells #[.string nm, .int .u8 (o : Int), .int .i64 n, .string v, .string r] 25))
    go_enter Tryz.func37, Tryz.ntmps37
    go_wp2_with (first
      | (go_at_call 50; with_reducible refine (hN _ HK.out).mono ?_; rintro e w5 ⟨rfl, hk5⟩; have HA := Lib.hid (hk5.box HA.out (fun h => h)); have HK := Lib.hid (Kept.trans HK.out hk5 (fun _ _ h => h)); have ax0 := HA.out.cell 0; have ax1 := HA.out.cell 1; have ax2 := HA.out.cell 2; have ax3 := HA.out.cell 3; have ax4 := HA.out.cell 4; clear hk5)
      | (go_at_call 51; with_reducible refine (hS _ HK.out).mono ?_; rintro e w5 ⟨rfl, hk5⟩; have HA := Lib.hid (hk5.box HA.out (fun h => h)); have HK := Lib.hid (Kept.trans HK.out hk5 (fun _ _ h => h)); have ax0 := HA.out.cell 0; have ax1 := HA.out.cell 1; have ax2 := HA.out.cell 2; have ax3 := HA.out.cell 3; have ax4 := HA.out.cell 4; clear hk5)
      | fail)
    go_ret
    exact ⟨rfl, HK.out⟩
set_option maxRecDepth 100000 in
set_option maxHeartbeats 2000000 in
theorem may6p_C0 (nm : ByteArray) (w : World) (hN : (∀ W, Kept (fun _ => False) w W → Calls Tryz.prog 50 #[.string nm] W fun e w' => e = .returned (.bool true) ∧ Kept (fun _ => False) W w')) (hS : (∀ W, Kept (fun _ => False) w W → Calls Tryz.prog 51 #[.int .u8 0] W fun e w' => e = .returned (.bool true) ∧ Kept (fun _ => False) W w')) : Calls Tryz.prog 37 #[.agg #[.string nm, .int .u8 0, .int .i64 0, .string ⟨#[]⟩, .string ⟨#[]⟩]] w fun e w' => e = .returned (.bool true) ∧ Kept (fun _ => False) w w' := by
    have HA := Lib.hid (Box.made w 25 #[.string nm, .int .u8 0, .int .i64 0, .string ⟨#[]⟩, .string ⟨#[]⟩])
    have HK := Lib.hid ((Kept.refl (fun _ => False) w).alloc (.cells #[.string nm, .int .u8 0, .int .i64 0, .string ⟨#[]⟩, .string ⟨#[]⟩] 25))
    go_enter Tryz.func37, Tryz.ntmps37
    go_wp2_with (first
      | (go_at_call 50; with_reducible refine (hN _ HK.out).mono ?_; rintro e w5 ⟨rfl, hk5⟩; have HA := Lib.hid (hk5.box HA.out (fun h => h)); have HK := Lib.hid (Kept.trans HK.out hk5 (fun _ _ h => h)); have ax0 := HA.out.cell 0; have ax1 := HA.out.cell 1; have ax2 := HA.out.cell 2; have ax3 := HA.out.cell 3; have ax4 := HA.out.cell 4; clear hk5)
      | (go_at_call 51; with_reducible refine (hS _ HK.out).mono ?_; rintro e w5 ⟨rfl, hk5⟩; have HA := Lib.hid (hk5.box HA.out (fun h => h)); have HK := Lib.hid (Kept.trans HK.out hk5 (fun _ _ h => h)); have ax0 := HA.out.cell 0; have ax1 := HA.out.cell 1; have ax2 := HA.out.cell 2; have ax3 := HA.out.cell 3; have ax4 := HA.out.cell 4; clear hk5)
      | fail)
    go_ret
    exact ⟨rfl, HK.out⟩
set_option maxRecDepth 100000 in
set_option maxHeartbeats 2000000 in
theorem may6p_C1 (nm : ByteArray) (n : Int) (v r : ByteArray) (w : World) (hN : (∀ W, Kept (fun _ => False) w W → Calls Tryz.prog 50 #[.string nm] W fun e w' => e = .returned (.bool true) ∧ Kept (fun _ => False) W w')) (hS : (∀ W, Kept (fun _ => False) w W → Calls Tryz.prog 51 #[.int .u8 0] W fun e w' => e = .returned (.bool true) ∧ Kept (fun _ => False) W w')) (hn : (n == 0) = false) : Calls Tryz.prog 37 #[.agg #[.string nm, .int .u8 0, .int .i64 n, .string v, .string r]] w fun e w' => e = .returned (.bool false) ∧ Kept (fun _ => False) w w' := by
    have HA := Lib.hid (Box.made w 25 #[.string nm, .int .u8 0, .int .i64 n, .string v, .string r])
    have HK := Lib.hid ((Kept.refl (fun _ => False) w).alloc (.cells #[.string nm, .int .u8 0, .int .i64 n, .string v, .string r] 25))
    go_enter Tryz.func37, Tryz.ntmps37
    go_wp2_with (first
      | (go_at_call 50; with_reducible refine (hN _ HK.out).mono ?_; rintro e w5 ⟨rfl, hk5⟩; have HA := Lib.hid (hk5.box HA.out (fun h => h)); have HK := Lib.hid (Kept.trans HK.out hk5 (fun _ _ h => h)); have ax0 := HA.out.cell 0; have ax1 := HA.out.cell 1; have ax2 := HA.out.cell 2; have ax3 := HA.out.cell 3; have ax4 := HA.out.cell 4; clear hk5)
      | (go_at_call 51; with_reducible refine (hS _ HK.out).mono ?_; rintro e w5 ⟨rfl, hk5⟩; have HA := Lib.hid (hk5.box HA.out (fun h => h)); have HK := Lib.hid (Kept.trans HK.out hk5 (fun _ _ h => h)); have ax0 := HA.out.cell 0; have ax1 := HA.out.cell 1; have ax2 := HA.out.cell 2; have ax3 := HA.out.cell 3; have ax4 := HA.out.cell 4; clear hk5)
      | fail)
    go_ret
    exact ⟨rfl, HK.out⟩
set_option maxRecDepth 100000 in
set_option maxHeartbeats 2000000 in
theorem may6p_C2 (nm : ByteArray) (v r : ByteArray) (w : World) (hN : (∀ W, Kept (fun _ => False) w W → Calls Tryz.prog 50 #[.string nm] W fun e w' => e = .returned (.bool true) ∧ Kept (fun _ => False) W w')) (hS : (∀ W, Kept (fun _ => False) w W → Calls Tryz.prog 51 #[.int .u8 0] W fun e w' => e = .returned (.bool true) ∧ Kept (fun _ => False) W w')) (hn : v ≠ ⟨#[]⟩) : Calls Tryz.prog 37 #[.agg #[.string nm, .int .u8 0, .int .i64 0, .string v, .string r]] w fun e w' => e = .returned (.bool false) ∧ Kept (fun _ => False) w w' := by
    obtain ⟨g1, g2⟩ := text_ne hn
    have g3 := isEmpty_ne hn
    have HA := Lib.hid (Box.made w 25 #[.string nm, .int .u8 0, .int .i64 0, .string v, .string r])
    have HK := Lib.hid ((Kept.refl (fun _ => False) w).alloc (.cells #[.string nm, .int .u8 0, .int .i64 0, .string v, .string r] 25))
    go_enter Tryz.func37, Tryz.ntmps37
    go_wp2_with (first
      | (go_at_call 50; with_reducible refine (hN _ HK.out).mono ?_; rintro e w5 ⟨rfl, hk5⟩; have HA := Lib.hid (hk5.box HA.out (fun h => h)); have HK := Lib.hid (Kept.trans HK.out hk5 (fun _ _ h => h)); have ax0 := HA.out.cell 0; have ax1 := HA.out.cell 1; have ax2 := HA.out.cell 2; have ax3 := HA.out.cell 3; have ax4 := HA.out.cell 4; clear hk5)
      | (go_at_call 51; with_reducible refine (hS _ HK.out).mono ?_; rintro e w5 ⟨rfl, hk5⟩; have HA := Lib.hid (hk5.box HA.out (fun h => h)); have HK := Lib.hid (Kept.trans HK.out hk5 (fun _ _ h => h)); have ax0 := HA.out.cell 0; have ax1 := HA.out.cell 1; have ax2 := HA.out.cell 2; have ax3 := HA.out.cell 3; have ax4 := HA.out.cell 4; clear hk5)
      | fail)
    go_ret
    exact ⟨rfl, HK.out⟩
set_option maxRecDepth 100000 in
set_option maxHeartbeats 2000000 in
theorem may6p_C3 (nm : ByteArray) (r : ByteArray) (w : World) (hN : (∀ W, Kept (fun _ => False) w W → Calls Tryz.prog 50 #[.string nm] W fun e w' => e = .returned (.bool true) ∧ Kept (fun _ => False) W w')) (hS : (∀ W, Kept (fun _ => False) w W → Calls Tryz.prog 51 #[.int .u8 0] W fun e w' => e = .returned (.bool true) ∧ Kept (fun _ => False) W w')) (hn : r ≠ ⟨#[]⟩) : Calls Tryz.prog 37 #[.agg #[.string nm, .int .u8 0, .int .i64 0, .string ⟨#[]⟩, .string r]] w fun e w' => e = .returned (.bool false) ∧ Kept (fun _ => False) w w' := by
    obtain ⟨g1, g2⟩ := text_ne hn
    have g3 := isEmpty_ne hn
    have HA := Lib.hid (Box.made w 25 #[.string nm, .int .u8 0, .int .i64 0, .string ⟨#[]⟩, .string r])
    have HK := Lib.hid ((Kept.refl (fun _ => False) w).alloc (.cells #[.string nm, .int .u8 0, .int .i64 0, .string ⟨#[]⟩, .string r] 25))
    go_enter Tryz.func37, Tryz.ntmps37
    go_wp2_with (first
      | (go_at_call 50; with_reducible refine (hN _ HK.out).mono ?_; rintro e w5 ⟨rfl, hk5⟩; have HA := Lib.hid (hk5.box HA.out (fun h => h)); have HK := Lib.hid (Kept.trans HK.out hk5 (fun _ _ h => h)); have ax0 := HA.out.cell 0; have ax1 := HA.out.cell 1; have ax2 := HA.out.cell 2; have ax3 := HA.out.cell 3; have ax4 := HA.out.cell 4; clear hk5)
      | (go_at_call 51; with_reducible refine (hS _ HK.out).mono ?_; rintro e w5 ⟨rfl, hk5⟩; have HA := Lib.hid (hk5.box HA.out (fun h => h)); have HK := Lib.hid (Kept.trans HK.out hk5 (fun _ _ h => h)); have ax0 := HA.out.cell 0; have ax1 := HA.out.cell 1; have ax2 := HA.out.cell 2; have ax3 := HA.out.cell 3; have ax4 := HA.out.cell 4; clear hk5)
      | fail)
    go_ret
    exact ⟨rfl, HK.out⟩
set_option maxRecDepth 100000 in
set_option maxHeartbeats 2000000 in
theorem may6p_D (nm : ByteArray) (o : Nat) (n : Int) (v r : ByteArray) (w : World) (h0 : ((o : Int) == 0) = false) (hN : (∀ W, Kept (fun _ => False) w W → Calls Tryz.prog 50 #[.string nm] W fun e w' => e = .returned (.bool true) ∧ Kept (fun _ => False) W w')) (hS : (∀ W, Kept (fun _ => False) w W → Calls Tryz.prog 51 #[.int .u8 (o : Int)] W fun e w' => e = .returned (.bool true) ∧ Kept (fun _ => False) W w')) (hF : (∀ W, Kept (fun _ => False) w W → Calls Tryz.prog 52 #[.string nm] W fun e w' => e = .returned (.bool true) ∧ Kept (fun _ => False) W w')) : Calls Tryz.prog 37 #[.agg #[.string nm, .int .u8 (o : Int), .int .i64 n, .string v, .string r]] w fun e w' => e = .returned (.bool false) ∧ Kept (fun _ => False) w w' := by
    have HA := Lib.hid (Box.made w 25 #[.string nm, .int .u8 (o : Int), .int .i64 n, .string v, .string r])
    have HK := Lib.hid ((Kept.refl (fun _ => False) w).alloc (.cells #[.string nm, .int .u8 (o : Int), .int .i64 n, .string v, .string r] 25))
    go_enter Tryz.func37, Tryz.ntmps37
    go_wp2_with (first
      | (go_at_call 50; with_reducible refine (hN _ HK.out).mono ?_; rintro e w5 ⟨rfl, hk5⟩; have HA := Lib.hid (hk5.box HA.out (fun h => h)); have HK := Lib.hid (Kept.trans HK.out hk5 (fun _ _ h => h)); have ax0 := HA.out.cell 0; have ax1 := HA.out.cell 1; have ax2 := HA.out.cell 2; have ax3 := HA.out.cell 3; have ax4 := HA.out.cell 4; clear hk5)
      | (go_at_call 51; with_reducible refine (hS _ HK.out).mono ?_; rintro e w5 ⟨rfl, hk5⟩; have HA := Lib.hid (hk5.box HA.out (fun h => h)); have HK := Lib.hid (Kept.trans HK.out hk5 (fun _ _ h => h)); have ax0 := HA.out.cell 0; have ax1 := HA.out.cell 1; have ax2 := HA.out.cell 2; have ax3 := HA.out.cell 3; have ax4 := HA.out.cell 4; clear hk5)
      | (go_at_call 52; with_reducible refine (hF _ HK.out).mono ?_; rintro e w5 ⟨rfl, hk5⟩; have HA := Lib.hid (hk5.box HA.out (fun h => h)); have HK := Lib.hid (Kept.trans HK.out hk5 (fun _ _ h => h)); have ax0 := HA.out.cell 0; have ax1 := HA.out.cell 1; have ax2 := HA.out.cell 2; have ax3 := HA.out.cell 3; have ax4 := HA.out.cell 4; clear hk5)
      | fail)
    go_ret
    exact ⟨rfl, HK.out⟩
set_option maxRecDepth 100000 in
set_option maxHeartbeats 2000000 in
theorem may6p_E (nm : ByteArray) (o : Nat) (n : Int) (v r : ByteArray) (w : World) (h0 : ((o : Int) == 0) = false) (hN : (∀ W, Kept (fun _ => False) w W → Calls Tryz.prog 50 #[.string nm] W fun e w' => e = .returned (.bool true) ∧ Kept (fun _ => False) W w')) (hS : (∀ W, Kept (fun _ => False) w W → Calls Tryz.prog 51 #[.int .u8 (o : Int)] W fun e w' => e = .returned (.bool true) ∧ Kept (fun _ => False) W w')) (x : Bool) (hF : (∀ W, Kept (fun _ => False) w W → Calls Tryz.prog 52 #[.string nm] W fun e w' => e = .returned (.bool false) ∧ Kept (fun _ => False) W w')) (hE : (∀ W, Kept (fun _ => False) w W → Calls Tryz.prog 53 #[.agg #[.int .i64 n, .string v, .string r], .bool true] W fun e w' => e = .returned (.bool x) ∧ Kept (fun _ => False) W w')) : Calls Tryz.prog 37 #[.agg #[.string nm, .int .u8 (o : Int), .int .i64 n, .string v, .string r]] w fun e w' => e = .returned (.bool x) ∧ Kept (fun _ => False) w w' := by
    have HA := Lib.hid (Box.made w 25 #[.string nm, .int .u8 (o : Int), .int .i64 n, .string v, .string r])
    have HK := Lib.hid ((Kept.refl (fun _ => False) w).alloc (.cells #[.string nm, .int .u8 (o : Int), .int .i64 n, .string v, .string r] 25))
    go_enter Tryz.func37, Tryz.ntmps37
    go_wp2_with (first
      | (go_at_call 50; with_reducible refine (hN _ HK.out).mono ?_; rintro e w5 ⟨rfl, hk5⟩; have HA := Lib.hid (hk5.box HA.out (fun h => h)); have HK := Lib.hid (Kept.trans HK.out hk5 (fun _ _ h => h)); have ax0 := HA.out.cell 0; have ax1 := HA.out.cell 1; have ax2 := HA.out.cell 2; have ax3 := HA.out.cell 3; have ax4 := HA.out.cell 4; clear hk5)
      | (go_at_call 51; with_reducible refine (hS _ HK.out).mono ?_; rintro e w5 ⟨rfl, hk5⟩; have HA := Lib.hid (hk5.box HA.out (fun h => h)); have HK := Lib.hid (Kept.trans HK.out hk5 (fun _ _ h => h)); have ax0 := HA.out.cell 0; have ax1 := HA.out.cell 1; have ax2 := HA.out.cell 2; have ax3 := HA.out.cell 3; have ax4 := HA.out.cell 4; clear hk5)
      | (go_at_call 52; with_reducible refine (hF _ HK.out).mono ?_; rintro e w5 ⟨rfl, hk5⟩; have HA := Lib.hid (hk5.box HA.out (fun h => h)); have HK := Lib.hid (Kept.trans HK.out hk5 (fun _ _ h => h)); have ax0 := HA.out.cell 0; have ax1 := HA.out.cell 1; have ax2 := HA.out.cell 2; have ax3 := HA.out.cell 3; have ax4 := HA.out.cell 4; clear hk5)
      | (go_at_call 53; with_reducible refine (hE _ HK.out).mono ?_; rintro e w5 ⟨rfl, hk5⟩; have HA := Lib.hid (hk5.box HA.out (fun h => h)); have HK := Lib.hid (Kept.trans HK.out hk5 (fun _ _ h => h)); have ax0 := HA.out.cell 0; have ax1 := HA.out.cell 1; have ax2 := HA.out.cell 2; have ax3 := HA.out.cell 3; have ax4 := HA.out.cell 4; clear hk5)
      | fail)
    go_ret
    exact ⟨rfl, HK.out⟩
theorem may6p_walk (nm : ByteArray) (o : Nat) (ho : o < 256) (n : Int) (v r : ByteArray) (w : World) (hW : NotW w) : Calls Tryz.prog 37 #[depV nm o n v r] w fun e w' => e = .returned (.bool (mayD (dD nm o n v r))) ∧ Kept (fun _ => False) w w' := by
  have hN : ∀ W, Kept (fun _ => False) w W → Calls Tryz.prog 50 #[.string nm] W fun e w' => e = .returned (.bool (nameD nm.data.toList)) ∧ Kept (fun _ => False) W w' := fun W hk => name_walk nm W (hW.kept hk)
  have hF : ∀ W, Kept (fun _ => False) w W → Calls Tryz.prog 52 #[.string nm] W fun e w' => e = .returned (.bool (fileD nm.data.toList)) ∧ Kept (fun _ => False) W w' := fun W hk => file_walk nm W (hW.kept hk)
  have hS : ∀ W, Kept (fun _ => False) w W → Calls Tryz.prog 51 #[.int .u8 (o : Int)] W fun e w' => e = .returned (.bool (mayO o)) ∧ Kept (fun _ => False) W w' := fun W _ => may_k o ho W
  have hE : ∀ W, Kept (fun _ => False) w W → Calls Tryz.prog 53 #[.agg #[.int .i64 n, .string v, .string r], .bool true] W fun e w' => e = .returned (.bool (mayE (evrE n v r) true)) ∧ Kept (fun _ => False) W w' := fun W _ => mayK_walk n v r true W
  cases hx : nameD nm.data.toList with
  | false =>
    rw [hx] at hN
    rw [may_name hx]
    exact may6p_A nm o n v r w hN
  | true =>
    rw [hx] at hN
    cases hy : mayO o with
    | false =>
      rw [hy] at hS
      rw [may_op0 hy]
      exact may6p_B nm o n v r w hN hS
    | true =>
      rw [hy] at hS
      by_cases h0 : o = 0
      · subst h0
        rw [may_none hx]
        rcases noE_cases n v r with ⟨rfl, rfl, rfl, h⟩ | ⟨h, h1 | ⟨rfl, h1⟩ | ⟨rfl, rfl, h1⟩⟩
        · rw [h]; exact may6p_C0 nm w hN hS
        · rw [h]; exact may6p_C1 nm n v r w hN hS (by simpa using h1)
        · rw [h]; exact may6p_C2 nm v r w hN hS h1
        · rw [h]; exact may6p_C3 nm r w hN hS h1
      · rw [may_some hx hy h0]
        cases hz : fileD nm.data.toList with
        | true =>
          rw [hz] at hF
          exact may6p_D nm o n v r w (by simp; exact h0) hN hS hF
        | false =>
          rw [hz] at hF
          exact may6p_E nm o n v r w (by simp; exact h0) hN hS _ hF hE
set_option maxRecDepth 100000 in
set_option maxHeartbeats 2000000 in
theorem may6r_A (nm : ByteArray) (o : Nat) (n : Int) (v r : ByteArray) (w : World) (hN : (∀ W, Kept (fun _ => False) w W → Calls Tryz.prog 54 #[.string nm] W fun e w' => e = .returned (.bool false) ∧ Kept (fun _ => False) W w')) : Calls Tryz.prog 39 #[.agg #[.string nm, .int .u8 (o : Int), .int .i64 n, .string v, .string r]] w fun e w' => e = .returned (.bool false) ∧ Kept (fun _ => False) w w' := by
    have HA := Lib.hid (Box.made w 25 #[.string nm, .int .u8 (o : Int), .int .i64 n, .string v, .string r])
    have HK := Lib.hid ((Kept.refl (fun _ => False) w).alloc (.cells #[.string nm, .int .u8 (o : Int), .int .i64 n, .string v, .string r] 25))
    go_enter Tryz.func39, Tryz.ntmps39
    go_wp2_with (first
      | (go_at_call 54; with_reducible refine (hN _ HK.out).mono ?_; rintro e w5 ⟨rfl, hk5⟩; have HA := Lib.hid (hk5.box HA.out (fun h => h)); have HK := Lib.hid (Kept.trans HK.out hk5 (fun _ _ h => h)); have ax0 := HA.out.cell 0; have ax1 := HA.out.cell 1; have ax2 := HA.out.cell 2; have ax3 := HA.out.cell 3; have ax4 := HA.out.cell 4; clear hk5)
      | fail)
    go_ret
    exact ⟨rfl, HK.out⟩
set_option maxRecDepth 100000 in
set_option maxHeartbeats 2000000 in
theorem may6r_B (nm : ByteArray) (o : Nat) (n : Int) (v r : ByteArray) (w : World) (hN : (∀ W, Kept (fun _ => False) w W → Calls Tryz.prog 54 #[.string nm] W fun e w' => e = .returned (.bool true) ∧ Kept (fun _ => False) W w')) (hS : (∀ W, Kept (fun _ => False) w W → Calls Tryz.prog 55 #[.int .u8 (o : Int)] W fun e w' => e = .returned (.bool false) ∧ Kept (fun _ => False) W w')) : Calls Tryz.prog 39 #[.agg #[.string nm, .int .u8 (o : Int), .int .i64 n, .string v, .string r]] w fun e w' => e = .returned (.bool false) ∧ Kept (fun _ => False) w w' := by
    have HA := Lib.hid (Box.made w 25 #[.string nm, .int .u8 (o : Int), .int .i64 n, .string v, .string r])
    have HK := Lib.hid ((Kept.refl (fun _ => False) w).alloc (.cells #[.string nm, .int .u8 (o : Int), .int .i64 n, .string v, .string r] 25))
    go_enter Tryz.func39, Tryz.ntmps39
    go_wp2_with (first
      | (go_at_call 54; with_reducible refine (hN _ HK.out).mono ?_; rintro e w5 ⟨rfl, hk5⟩; have HA := Lib.hid (hk5.box HA.out (fun h => h)); have HK := Lib.hid (Kept.trans HK.out hk5 (fun _ _ h => h)); have ax0 := HA.out.cell 0; have ax1 := HA.out.cell 1; have ax2 := HA.out.cell 2; have ax3 := HA.out.cell 3; have ax4 := HA.out.cell 4; clear hk5)
      | (go_at_call 55; with_reducible refine (hS _ HK.out).mono ?_; rintro e w5 ⟨rfl, hk5⟩; have HA := Lib.hid (hk5.box HA.out (fun h => h)); have HK := Lib.hid (Kept.trans HK.out hk5 (fun _ _ h => h)); have ax0 := HA.out.cell 0; have ax1 := HA.out.cell 1; have ax2 := HA.out.cell 2; have ax3 := HA.out.cell 3; have ax4 := HA.out.cell 4; clear hk5)
      | fail)
    go_ret
    exact ⟨rfl, HK.out⟩
set_option maxRecDepth 100000 in
set_option maxHeartbeats 2000000 in
theorem may6r_C0 (nm : ByteArray) (w : World) (hN : (∀ W, Kept (fun _ => False) w W → Calls Tryz.prog 54 #[.string nm] W fun e w' => e = .returned (.bool true) ∧ Kept (fun _ => False) W w')) (hS : (∀ W, Kept (fun _ => False) w W → Calls Tryz.prog 55 #[.int .u8 0] W fun e w' => e = .returned (.bool true) ∧ Kept (fun _ => False) W w')) : Calls Tryz.prog 39 #[.agg #[.string nm, .int .u8 0, .int .i64 0, .string ⟨#[]⟩, .string ⟨#[]⟩]] w fun e w' => e = .returned (.bool true) ∧ Kept (fun _ => False) w w' := by
    have HA := Lib.hid (Box.made w 25 #[.string nm, .int .u8 0, .int .i64 0, .string ⟨#[]⟩, .string ⟨#[]⟩])
    have HK := Lib.hid ((Kept.refl (fun _ => False) w).alloc (.cells #[.string nm, .int .u8 0, .int .i64 0, .string ⟨#[]⟩, .string ⟨#[]⟩] 25))
    go_enter Tryz.func39, Tryz.ntmps39
    go_wp2_with (first
      | (go_at_call 54; with_reducible refine (hN _ HK.out).mono ?_; rintro e w5 ⟨rfl, hk5⟩; have HA := Lib.hid (hk5.box HA.out (fun h => h)); have HK := Lib.hid (Kept.trans HK.out hk5 (fun _ _ h => h)); have ax0 := HA.out.cell 0; have ax1 := HA.out.cell 1; have ax2 := HA.out.cell 2; have ax3 := HA.out.cell 3; have ax4 := HA.out.cell 4; clear hk5)
      | (go_at_call 55; with_reducible refine (hS _ HK.out).mono ?_; rintro e w5 ⟨rfl, hk5⟩; have HA := Lib.hid (hk5.box HA.out (fun h => h)); have HK := Lib.hid (Kept.trans HK.out hk5 (fun _ _ h => h)); have ax0 := HA.out.cell 0; have ax1 := HA.out.cell 1; have ax2 := HA.out.cell 2; have ax3 := HA.out.cell 3; have ax4 := HA.out.cell 4; clear hk5)
      | fail)
    go_ret
    exact ⟨rfl, HK.out⟩
set_option maxRecDepth 100000 in
set_option maxHeartbeats 2000000 in
theorem may6r_C1 (nm : ByteArray) (n : Int) (v r : ByteArray) (w : World) (hN : (∀ W, Kept (fun _ => False) w W → Calls Tryz.prog 54 #[.string nm] W fun e w' => e = .returned (.bool true) ∧ Kept (fun _ => False) W w')) (hS : (∀ W, Kept (fun _ => False) w W → Calls Tryz.prog 55 #[.int .u8 0] W fun e w' => e = .returned (.bool true) ∧ Kept (fun _ => False) W w')) (hn : (n == 0) = false) : Calls Tryz.prog 39 #[.agg #[.string nm, .int .u8 0, .int .i64 n, .string v, .string r]] w fun e w' => e = .returned (.bool false) ∧ Kept (fun _ => False) w w' := by
    have HA := Lib.hid (Box.made w 25 #[.string nm, .int .u8 0, .int .i64 n, .string v, .string r])
    have HK := Lib.hid ((Kept.refl (fun _ => False) w).alloc (.cells #[.string nm, .int .u8 0, .int .i64 n, .string v, .string r] 25))
    go_enter Tryz.func39, Tryz.ntmps39
    go_wp2_with (first
      | (go_at_call 54; with_reducible refine (hN _ HK.out).mono ?_; rintro e w5 ⟨rfl, hk5⟩; have HA := Lib.hid (hk5.box HA.out (fun h => h)); have HK := Lib.hid (Kept.trans HK.out hk5 (fun _ _ h => h)); have ax0 := HA.out.cell 0; have ax1 := HA.out.cell 1; have ax2 := HA.out.cell 2; have ax3 := HA.out.cell 3; have ax4 := HA.out.cell 4; clear hk5)
      | (go_at_call 55; with_reducible refine (hS _ HK.out).mono ?_; rintro e w5 ⟨rfl, hk5⟩; have HA := Lib.hid (hk5.box HA.out (fun h => h)); have HK := Lib.hid (Kept.trans HK.out hk5 (fun _ _ h => h)); have ax0 := HA.out.cell 0; have ax1 := HA.out.cell 1; have ax2 := HA.out.cell 2; have ax3 := HA.out.cell 3; have ax4 := HA.out.cell 4; clear hk5)
      | fail)
    go_ret
    exact ⟨rfl, HK.out⟩
set_option maxRecDepth 100000 in
set_option maxHeartbeats 2000000 in
theorem may6r_C2 (nm : ByteArray) (v r : ByteArray) (w : World) (hN : (∀ W, Kept (fun _ => False) w W → Calls Tryz.prog 54 #[.string nm] W fun e w' => e = .returned (.bool true) ∧ Kept (fun _ => False) W w')) (hS : (∀ W, Kept (fun _ => False) w W → Calls Tryz.prog 55 #[.int .u8 0] W fun e w' => e = .returned (.bool true) ∧ Kept (fun _ => False) W w')) (hn : v ≠ ⟨#[]⟩) : Calls Tryz.prog 39 #[.agg #[.string nm, .int .u8 0, .int .i64 0, .string v, .string r]] w fun e w' => e = .returned (.bool false) ∧ Kept (fun _ => False) w w' := by
    obtain ⟨g1, g2⟩ := text_ne hn
    have g3 := isEmpty_ne hn
    have HA := Lib.hid (Box.made w 25 #[.string nm, .int .u8 0, .int .i64 0, .string v, .string r])
    have HK := Lib.hid ((Kept.refl (fun _ => False) w).alloc (.cells #[.string nm, .int .u8 0, .int .i64 0, .string v, .string r] 25))
    go_enter Tryz.func39, Tryz.ntmps39
    go_wp2_with (first
      | (go_at_call 54; with_reducible refine (hN _ HK.out).mono ?_; rintro e w5 ⟨rfl, hk5⟩; have HA := Lib.hid (hk5.box HA.out (fun h => h)); have HK := Lib.hid (Kept.trans HK.out hk5 (fun _ _ h => h)); have ax0 := HA.out.cell 0; have ax1 := HA.out.cell 1; have ax2 := HA.out.cell 2; have ax3 := HA.out.cell 3; have ax4 := HA.out.cell 4; clear hk5)
      | (go_at_call 55; with_reducible refine (hS _ HK.out).mono ?_; rintro e w5 ⟨rfl, hk5⟩; have HA := Lib.hid (hk5.box HA.out (fun h => h)); have HK := Lib.hid (Kept.trans HK.out hk5 (fun _ _ h => h)); have ax0 := HA.out.cell 0; have ax1 := HA.out.cell 1; have ax2 := HA.out.cell 2; have ax3 := HA.out.cell 3; have ax4 := HA.out.cell 4; clear hk5)
      | fail)
    go_ret
    exact ⟨rfl, HK.out⟩
set_option maxRecDepth 100000 in
set_option maxHeartbeats 2000000 in
theorem may6r_C3 (nm : ByteArray) (r : ByteArray) (w : World) (hN : (∀ W, Kept (fun _ => False) w W → Calls Tryz.prog 54 #[.string nm] W fun e w' => e = .returned (.bool true) ∧ Kept (fun _ => False) W w')) (hS : (∀ W, Kept (fun _ => False) w W → Calls Tryz.prog 55 #[.int .u8 0] W fun e w' => e = .returned (.bool true) ∧ Kept (fun _ => False) W w')) (hn : r ≠ ⟨#[]⟩) : Calls Tryz.prog 39 #[.agg #[.string nm, .int .u8 0, .int .i64 0, .string ⟨#[]⟩, .string r]] w fun e w' => e = .returned (.bool false) ∧ Kept (fun _ => False) w w' := by
    obtain ⟨g1, g2⟩ := text_ne hn
    have g3 := isEmpty_ne hn
    have HA := Lib.hid (Box.made w 25 #[.string nm, .int .u8 0, .int .i64 0, .string ⟨#[]⟩, .string r])
    have HK := Lib.hid ((Kept.refl (fun _ => False) w).alloc (.cells #[.string nm, .int .u8 0, .int .i64 0, .string ⟨#[]⟩, .string r] 25))
    go_enter Tryz.func39, Tryz.ntmps39
    go_wp2_with (first
      | (go_at_call 54; with_reducible refine (hN _ HK.out).mono ?_; rintro e w5 ⟨rfl, hk5⟩; have HA := Lib.hid (hk5.box HA.out (fun h => h)); have HK := Lib.hid (Kept.trans HK.out hk5 (fun _ _ h => h)); have ax0 := HA.out.cell 0; have ax1 := HA.out.cell 1; have ax2 := HA.out.cell 2; have ax3 := HA.out.cell 3; have ax4 := HA.out.cell 4; clear hk5)
      | (go_at_call 55; with_reducible refine (hS _ HK.out).mono ?_; rintro e w5 ⟨rfl, hk5⟩; have HA := Lib.hid (hk5.box HA.out (fun h => h)); have HK := Lib.hid (Kept.trans HK.out hk5 (fun _ _ h => h)); have ax0 := HA.out.cell 0; have ax1 := HA.out.cell 1; have ax2 := HA.out.cell 2; have ax3 := HA.out.cell 3; have ax4 := HA.out.cell 4; clear hk5)
      | fail)
    go_ret
    exact ⟨rfl, HK.out⟩
set_option maxRecDepth 100000 in
set_option maxHeartbeats 2000000 in
theorem may6r_D (nm : ByteArray) (o : Nat) (n : Int) (v r : ByteArray) (w : World) (h0 : ((o : Int) == 0) = false) (hN : (∀ W, Kept (fun _ => False) w W → Calls Tryz.prog 54 #[.string nm] W fun e w' => e = .returned (.bool true) ∧ Kept (fun _ => False) W w')) (hS : (∀ W, Kept (fun _ => False) w W → Calls Tryz.prog 55 #[.int .u8 (o : Int)] W fun e w' => e = .returned (.bool true) ∧ Kept (fun _ => False) W w')) (hF : (∀ W, Kept (fun _ => False) w W → Calls Tryz.prog 56 #[.string nm] W fun e w' => e = .returned (.bool true) ∧ Kept (fun _ => False) W w')) : Calls Tryz.prog 39 #[.agg #[.string nm, .int .u8 (o : Int), .int .i64 n, .string v, .string r]] w fun e w' => e = .returned (.bool false) ∧ Kept (fun _ => False) w w' := by
    have HA := Lib.hid (Box.made w 25 #[.string nm, .int .u8 (o : Int), .int .i64 n, .string v, .string r])
    have HK := Lib.hid ((Kept.refl (fun _ => False) w).alloc (.cells #[.string nm, .int .u8 (o : Int), .int .i64 n, .string v, .string r] 25))
    go_enter Tryz.func39, Tryz.ntmps39
    go_wp2_with (first
      | (go_at_call 54; with_reducible refine (hN _ HK.out).mono ?_; rintro e w5 ⟨rfl, hk5⟩; have HA := Lib.hid (hk5.box HA.out (fun h => h)); have HK := Lib.hid (Kept.trans HK.out hk5 (fun _ _ h => h)); have ax0 := HA.out.cell 0; have ax1 := HA.out.cell 1; have ax2 := HA.out.cell 2; have ax3 := HA.out.cell 3; have ax4 := HA.out.cell 4; clear hk5)
      | (go_at_call 55; with_reducible refine (hS _ HK.out).mono ?_; rintro e w5 ⟨rfl, hk5⟩; have HA := Lib.hid (hk5.box HA.out (fun h => h)); have HK := Lib.hid (Kept.trans HK.out hk5 (fun _ _ h => h)); have ax0 := HA.out.cell 0; have ax1 := HA.out.cell 1; have ax2 := HA.out.cell 2; have ax3 := HA.out.cell 3; have ax4 := HA.out.cell 4; clear hk5)
      | (go_at_call 56; with_reducible refine (hF _ HK.out).mono ?_; rintro e w5 ⟨rfl, hk5⟩; have HA := Lib.hid (hk5.box HA.out (fun h => h)); have HK := Lib.hid (Kept.trans HK.out hk5 (fun _ _ h => h)); have ax0 := HA.out.cell 0; have ax1 := HA.out.cell 1; have ax2 := HA.out.cell 2; have ax3 := HA.out.cell 3; have ax4 := HA.out.cell 4; clear hk5)
      | fail)
    go_ret
    exact ⟨rfl, HK.out⟩
set_option maxRecDepth 100000 in
set_option maxHeartbeats 2000000 in
theorem may6r_E (nm : ByteArray) (o : Nat) (n : Int) (v r : ByteArray) (w : World) (h0 : ((o : Int) == 0) = false) (hN : (∀ W, Kept (fun _ => False) w W → Calls Tryz.prog 54 #[.string nm] W fun e w' => e = .returned (.bool true) ∧ Kept (fun _ => False) W w')) (hS : (∀ W, Kept (fun _ => False) w W → Calls Tryz.prog 55 #[.int .u8 (o : Int)] W fun e w' => e = .returned (.bool true) ∧ Kept (fun _ => False) W w')) (x : Bool) (hF : (∀ W, Kept (fun _ => False) w W → Calls Tryz.prog 56 #[.string nm] W fun e w' => e = .returned (.bool false) ∧ Kept (fun _ => False) W w')) (hE : (∀ W, Kept (fun _ => False) w W → Calls Tryz.prog 57 #[.agg #[.int .i64 n, .string v, .string r], .bool true] W fun e w' => e = .returned (.bool x) ∧ Kept (fun _ => False) W w')) : Calls Tryz.prog 39 #[.agg #[.string nm, .int .u8 (o : Int), .int .i64 n, .string v, .string r]] w fun e w' => e = .returned (.bool x) ∧ Kept (fun _ => False) w w' := by
    have HA := Lib.hid (Box.made w 25 #[.string nm, .int .u8 (o : Int), .int .i64 n, .string v, .string r])
    have HK := Lib.hid ((Kept.refl (fun _ => False) w).alloc (.cells #[.string nm, .int .u8 (o : Int), .int .i64 n, .string v, .string r] 25))
    go_enter Tryz.func39, Tryz.ntmps39
    go_wp2_with (first
      | (go_at_call 54; with_reducible refine (hN _ HK.out).mono ?_; rintro e w5 ⟨rfl, hk5⟩; have HA := Lib.hid (hk5.box HA.out (fun h => h)); have HK := Lib.hid (Kept.trans HK.out hk5 (fun _ _ h => h)); have ax0 := HA.out.cell 0; have ax1 := HA.out.cell 1; have ax2 := HA.out.cell 2; have ax3 := HA.out.cell 3; have ax4 := HA.out.cell 4; clear hk5)
      | (go_at_call 55; with_reducible refine (hS _ HK.out).mono ?_; rintro e w5 ⟨rfl, hk5⟩; have HA := Lib.hid (hk5.box HA.out (fun h => h)); have HK := Lib.hid (Kept.trans HK.out hk5 (fun _ _ h => h)); have ax0 := HA.out.cell 0; have ax1 := HA.out.cell 1; have ax2 := HA.out.cell 2; have ax3 := HA.out.cell 3; have ax4 := HA.out.cell 4; clear hk5)
      | (go_at_call 56; with_reducible refine (hF _ HK.out).mono ?_; rintro e w5 ⟨rfl, hk5⟩; have HA := Lib.hid (hk5.box HA.out (fun h => h)); have HK := Lib.hid (Kept.trans HK.out hk5 (fun _ _ h => h)); have ax0 := HA.out.cell 0; have ax1 := HA.out.cell 1; have ax2 := HA.out.cell 2; have ax3 := HA.out.cell 3; have ax4 := HA.out.cell 4; clear hk5)
      | (go_at_call 57; with_reducible refine (hE _ HK.out).mono ?_; rintro e w5 ⟨rfl, hk5⟩; have HA := Lib.hid (hk5.box HA.out (fun h => h)); have HK := Lib.hid (Kept.trans HK.out hk5 (fun _ _ h => h)); have ax0 := HA.out.cell 0; have ax1 := HA.out.cell 1; have ax2 := HA.out.cell 2; have ax3 := HA.out.cell 3; have ax4 := HA.out.cell 4; clear hk5)
      | fail)
    go_ret
    exact ⟨rfl, HK.out⟩
theorem may6r_walk (nm : ByteArray) (o : Nat) (ho : o < 256) (n : Int) (v r : ByteArray) (hv : v.size ≤ 1000000) (hr : r.size ≤ 1000000) (w : World) : Calls Tryz.prog 39 #[depV nm o n v r] w fun e w' => e = .returned (.bool (mayD (dD nm o n v r))) ∧ Kept (fun _ => False) w w' := by
  have hN : ∀ W, Kept (fun _ => False) w W → Calls Tryz.prog 54 #[.string nm] W fun e w' => e = .returned (.bool (nameD nm.data.toList)) ∧ Kept (fun _ => False) W w' := fun W _ => same_kept (name6_walk nm W)
  have hF : ∀ W, Kept (fun _ => False) w W → Calls Tryz.prog 56 #[.string nm] W fun e w' => e = .returned (.bool (fileD nm.data.toList)) ∧ Kept (fun _ => False) W w' := fun W _ => same_kept (file6_walk nm W)
  have hS : ∀ W, Kept (fun _ => False) w W → Calls Tryz.prog 55 #[.int .u8 (o : Int)] W fun e w' => e = .returned (.bool (mayO o)) ∧ Kept (fun _ => False) W w' := fun W _ => may4 o ho W
  have hE : ∀ W, Kept (fun _ => False) w W → Calls Tryz.prog 57 #[.agg #[.int .i64 n, .string v, .string r], .bool true] W fun e w' => e = .returned (.bool (mayE (evrE n v r) true)) ∧ Kept (fun _ => False) W w' := fun W _ => may_walk n v r true W hv hr
  cases hx : nameD nm.data.toList with
  | false =>
    rw [hx] at hN
    rw [may_name hx]
    exact may6r_A nm o n v r w hN
  | true =>
    rw [hx] at hN
    cases hy : mayO o with
    | false =>
      rw [hy] at hS
      rw [may_op0 hy]
      exact may6r_B nm o n v r w hN hS
    | true =>
      rw [hy] at hS
      by_cases h0 : o = 0
      · subst h0
        rw [may_none hx]
        rcases noE_cases n v r with ⟨rfl, rfl, rfl, h⟩ | ⟨h, h1 | ⟨rfl, h1⟩ | ⟨rfl, rfl, h1⟩⟩
        · rw [h]; exact may6r_C0 nm w hN hS
        · rw [h]; exact may6r_C1 nm n v r w hN hS (by simpa using h1)
        · rw [h]; exact may6r_C2 nm v r w hN hS h1
        · rw [h]; exact may6r_C3 nm r w hN hS h1
      · rw [may_some hx hy h0]
        cases hz : fileD nm.data.toList with
        | true =>
          rw [hz] at hF
          exact may6r_D nm o n v r w (by simp; exact h0) hN hS hF
        | false =>
          rw [hz] at hF
          exact may6r_E nm o n v r w (by simp; exact h0) hN hS _ hF hE
end Go.Proofs.YtoebokgpdkklmaaGreatDoor
