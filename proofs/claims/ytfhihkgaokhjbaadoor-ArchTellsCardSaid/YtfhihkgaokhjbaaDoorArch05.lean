/-
  The walks over the program's own text of layer 5: names, architectures of names, scores, what fits, what is apart, what may follow. Conditions: the two tables lie as the program's text lays them.
-/
import Derived.Test.YtfhihkgaokhjbaaDoorRows
import Derived.WalkKit
import Derived.ProofKit
import Derived.Lib.AppendStr
namespace Go.Proofs.YtfhihkgaokhjbaaDoor
open Go.RowKit

namespace Arch
def known (a : Nat) : Bool := decide (1 ≤ a ∧ a ≤ 4)
def mach (a : Nat) : Bool := decide (2 ≤ a ∧ a ≤ 4)
def nm1 : ByteArray := ⟨#[110, 111, 97, 114, 99, 104]⟩
def nm2 : ByteArray := ⟨#[120, 56, 54, 95, 54, 52]⟩
def nm3 : ByteArray := ⟨#[105, 54, 56, 54]⟩
def nm4 : ByteArray := ⟨#[97, 97, 114, 99, 104, 54, 52]⟩
def nameB (a : Nat) : ByteArray := if a = 1 then nm1 else if a = 2 then nm2 else if a = 3 then nm3 else if a = 4 then nm4 else ⟨#[]⟩
def score (m a : Nat) : Nat := if mach m = true then (if a = m then 1 else if a = 1 then 2 else if m = 2 ∧ a = 3 then 3 else 0) else 0
def fits (m a : Nat) : Bool := decide (0 < score m a)
def apart (a b : Nat) : Bool := mach a && mach b && decide (a ≠ b)
def follows (a b : Nat) : Bool := known a && known b && !apart a b
def parse (s : ByteArray) : Nat × Nat := if nm1.toList == s.toList then (1, 0) else if nm2.toList == s.toList then (2, 0) else if nm3.toList == s.toList then (3, 0) else if nm4.toList == s.toList then (4, 0) else (0, 5)
def scoreRow (m : Nat) : List Value := (List.range 5).map fun a => .int .i64 (score m a : Int)
end Arch
open Arch

/-- The table of names lies as the program's text lays it. -/
structure NamesW (W : World) : Prop where
  names : ∀ i, i < 5 → W.cell? ⟨0, i, none⟩ = some (.string (nameB i))
/-- The table of scores lies as the program's text lays it. -/
structure ScoresW (W : World) : Prop where
  scores : ∀ m a, m < 5 → a < 5 → W.cell? ⟨1, m * 5 + a, none⟩ = some (.int .i64 (score m a : Int))
/-- The two tables. -/
structure ArchW (W : World) : Prop extends NamesW W, ScoresW W

/-- A pure call. -/
abbrev Pure (f : FuncId) (args : Array Value) (v : Value) (W : World) : Prop := Calls Tryd.prog f args W fun e w' => e = .returned v ∧ w' = W

theorem known_lits (a : Nat) : (a = 0 ∨ a = 1 ∨ a = 2 ∨ a = 3 ∨ a = 4) ∨ 5 ≤ a := by omega

section
variable (W : World)
theorem known_k (a : Nat) (ha : a < 256) : Pure 22 #[.int .u8 (a : Int)] (.bool (known a)) W := by
  have e : known a = (decide ((0 : Int) < (a : Int)) && decide ((a : Int) < 5)) := by rw [Bool.eq_iff_iff]; simp [known]; omega
  rw [e]
  by_cases h : (0 : Int) < (a : Int)
  · go_enter Tryd.func22, Tryd.ntmps22
    go_wp2_with fail
    go_ret
    exact ⟨by have h2 : 0 < a := by omega
              simp [h2], rfl⟩
  · go_enter Tryd.func22, Tryd.ntmps22
    go_wp2_with fail
    go_ret
    exact ⟨by simp, rfl⟩
theorem machine_k (a : Nat) (ha : a < 256) : Pure 10 #[.int .u8 (a : Int)] (.bool (mach a)) W := by
  have hK := known_k W a ha
  have e : mach a = (known a && !decide ((a : Int) = 1)) := by rw [Bool.eq_iff_iff]; simp [mach, known]; omega
  rw [e]
  generalize known a = k at hK
  cases k
  · go_enter Tryd.func10, Tryd.ntmps10
    go_wp2_with (go_at_call 22; with_reducible refine hK.mono ?_; rintro e w1 ⟨rfl, rfl⟩)
    go_ret
    exact ⟨rfl, rfl⟩
  · go_enter Tryd.func10, Tryd.ntmps10
    go_wp2_with (go_at_call 22; with_reducible refine hK.mono ?_; rintro e w1 ⟨rfl, rfl⟩)
    go_ret
    exact ⟨by first | rfl | (simp; done) | (by_cases h : (a : Int) = 1 <;> simp [h]), rfl⟩
theorem name_k (hW : NamesW W) (a : Nat) (ha : a < 256) : Pure 9 #[.int .u8 (a : Int)] (.string (nameB a)) W := by
  have hK := known_k W a ha
  by_cases h : 1 ≤ a ∧ a ≤ 4
  · have h5 : a = 1 ∨ a = 2 ∨ a = 3 ∨ a = 4 := by omega
    rw [show known a = true by simp [known, h]] at hK
    have n0 := hW.names 0 (by decide)
    have n1 := hW.names a (by omega)
    have ai : (a : Int) < 5 := by omega
    have ai2 : (0 : Int) ≤ (a : Int) := by omega
    go_enter Tryd.func9, Tryd.ntmps9
    go_wp2_with (go_at_call 22; with_reducible refine hK.mono ?_; rintro e w1 ⟨rfl, rfl⟩)
    go_ret
    exact ⟨rfl, rfl⟩
  · rw [show known a = false by simp [known]; omega] at hK
    have e : nameB a = ⟨#[]⟩ := by unfold nameB; rw [if_neg (by omega), if_neg (by omega), if_neg (by omega), if_neg (by omega)]
    rw [e]
    go_enter Tryd.func9, Tryd.ntmps9
    go_wp2_with (go_at_call 22; with_reducible refine hK.mono ?_; rintro e w1 ⟨rfl, rfl⟩)
    go_ret
    exact ⟨rfl, rfl⟩
theorem score_k (hW : ScoresW W) (m a : Nat) (hm : m < 256) (ha : a < 256) : Pure 14 #[.int .u8 (m : Int), .int .u8 (a : Int)] (.int .i64 (score m a : Int)) W := by
  have hK := known_k W m hm
  have hL := known_k W a ha
  by_cases h : 1 ≤ m ∧ m ≤ 4
  · rw [show known m = true by simp [known, h]] at hK
    by_cases k : 1 ≤ a ∧ a ≤ 4
    · rw [show known a = true by simp [known, k]] at hL
      have s1 := hW.scores m a (by omega) (by omega)
      have h5 : m = 1 ∨ m = 2 ∨ m = 3 ∨ m = 4 := by omega
      have k5 : a = 1 ∨ a = 2 ∨ a = 3 ∨ a = 4 := by omega
      have mi : (m : Int) < 5 := by omega
      have mi2 : (0 : Int) ≤ (m : Int) := by omega
      have ai : (a : Int) < 5 := by omega
      have ai2 : (0 : Int) ≤ (a : Int) := by omega
      go_enter Tryd.func14, Tryd.ntmps14
      go_wp2_with (go_at_call 22; (first | with_reducible refine hK.mono ?_ | with_reducible refine hL.mono ?_); rintro e w1 ⟨rfl, rfl⟩)
      go_ret
      exact ⟨rfl, rfl⟩
    · rw [show known a = false by simp [known]; omega] at hL
      have e : score m a = 0 := by
        unfold score
        simp only [mach, decide_eq_true_eq]
        repeat' split
        all_goals omega
      rw [e]
      go_enter Tryd.func14, Tryd.ntmps14
      go_wp2_with (go_at_call 22; (first | with_reducible refine hK.mono ?_ | with_reducible refine hL.mono ?_); rintro e w1 ⟨rfl, rfl⟩)
      go_ret
      exact ⟨rfl, rfl⟩
  · rw [show known m = false by simp [known]; omega] at hK
    have e : score m a = 0 := by unfold score; rw [if_neg (by simp only [mach, decide_eq_true_eq]; omega)]
    rw [e]
    go_enter Tryd.func14, Tryd.ntmps14
    go_wp2_with (go_at_call 22; with_reducible refine hK.mono ?_; rintro e w1 ⟨rfl, rfl⟩)
    go_ret
    exact ⟨rfl, rfl⟩
theorem fits_k (hW : ScoresW W) (m a : Nat) (hm : m < 256) (ha : a < 256) : Pure 13 #[.int .u8 (m : Int), .int .u8 (a : Int)] (.bool (fits m a)) W := by
  have hS := score_k W hW m a hm ha
  go_enter Tryd.func13, Tryd.ntmps13
  go_wp2_with (go_at_call 14; with_reducible refine hS.mono ?_; rintro e w1 ⟨rfl, rfl⟩)
  go_ret
  exact ⟨by simp [fits], rfl⟩
theorem apart_k (a b : Nat) (ha : a < 256) (hb : b < 256) : Pure 12 #[.int .u8 (a : Int), .int .u8 (b : Int)] (.bool (apart a b)) W := by
  have hA := machine_k W a ha
  have hB := machine_k W b hb
  have e : apart a b = (mach a && mach b && decide (¬ (a : Int) = (b : Int))) := by rw [Bool.eq_iff_iff]; simp [apart]; intros; omega
  rw [e]
  generalize mach a = x at hA
  generalize mach b = y at hB
  cases x
  · go_enter Tryd.func12, Tryd.ntmps12
    go_wp2_with (go_at_call 10; with_reducible refine hA.mono ?_; rintro e w1 ⟨rfl, rfl⟩)
    go_ret
    exact ⟨rfl, rfl⟩
  · cases y
    all_goals
      go_enter Tryd.func12, Tryd.ntmps12
      go_wp2_with (go_at_call 10; (first | with_reducible refine hA.mono ?_ | with_reducible refine hB.mono ?_); rintro e w1 ⟨rfl, rfl⟩)
      go_ret
      exact ⟨by first | rfl | (simp; done) | (by_cases h : (a : Int) = (b : Int) <;> simp [h]), rfl⟩
theorem follows_k (a b : Nat) (ha : a < 256) (hb : b < 256) : Pure 11 #[.int .u8 (a : Int), .int .u8 (b : Int)] (.bool (follows a b)) W := by
  have hA := known_k W a ha
  have hB := known_k W b hb
  have hC := apart_k W a b ha hb
  unfold follows
  generalize known a = x at hA
  generalize known b = y at hB
  generalize apart a b = z at hC
  cases x
  · go_enter Tryd.func11, Tryd.ntmps11
    go_wp2_with (go_at_call 22; with_reducible refine hA.mono ?_; rintro e w1 ⟨rfl, rfl⟩)
    go_ret
    exact ⟨rfl, rfl⟩
  · cases y
    · go_enter Tryd.func11, Tryd.ntmps11
      go_wp2_with (go_at_call 22; (first | with_reducible refine hA.mono ?_ | with_reducible refine hB.mono ?_); rintro e w1 ⟨rfl, rfl⟩)
      go_ret
      exact ⟨rfl, rfl⟩
    · go_enter Tryd.func11, Tryd.ntmps11
      go_wp2_with (first
        | (go_at_call 22; (first | with_reducible refine hA.mono ?_ | with_reducible refine hB.mono ?_); rintro e w1 ⟨rfl, rfl⟩)
        | (go_at_call 12; with_reducible refine hC.mono ?_; rintro e w1 ⟨rfl, rfl⟩))
      go_ret
      exact ⟨rfl, rfl⟩
theorem parse_k5 (hW : NamesW W) (s : ByteArray) : Pure 8 #[.string s] (.tuple #[.int .u8 ((parse s).1 : Int), .int .i64 ((parse s).2 : Int)]) W := by
  have K0 : Pure 22 #[.int .u8 0] (.bool false) W := known_k W 0 (by decide)
  have K1 : Pure 22 #[.int .u8 1] (.bool true) W := known_k W 1 (by decide)
  have K2 : Pure 22 #[.int .u8 2] (.bool true) W := known_k W 2 (by decide)
  have K3 : Pure 22 #[.int .u8 3] (.bool true) W := known_k W 3 (by decide)
  have K4 : Pure 22 #[.int .u8 4] (.bool true) W := known_k W 4 (by decide)
  have c1 : W.cell? ⟨0, 1, none⟩ = some (.string nm1) := hW.names 1 (by decide)
  have c2 : W.cell? ⟨0, 2, none⟩ = some (.string nm2) := hW.names 2 (by decide)
  have c3 : W.cell? ⟨0, 3, none⟩ = some (.string nm3) := hW.names 3 (by decide)
  have c4 : W.cell? ⟨0, 4, none⟩ = some (.string nm4) := hW.names 4 (by decide)
  have step : ∀ (x : Nat × Nat), ((nm1.toList == s.toList) = true ∧ x = (1, 0)) ∨ ((nm1.toList == s.toList) = false ∧ (nm2.toList == s.toList) = true ∧ x = (2, 0)) ∨ ((nm1.toList == s.toList) = false ∧ (nm2.toList == s.toList) = false ∧ (nm3.toList == s.toList) = true ∧ x = (3, 0)) ∨ ((nm1.toList == s.toList) = false ∧ (nm2.toList == s.toList) = false ∧ (nm3.toList == s.toList) = false ∧ (nm4.toList == s.toList) = true ∧ x = (4, 0)) ∨ ((nm1.toList == s.toList) = false ∧ (nm2.toList == s.toList) = false ∧ (nm3.toList == s.toList) = false ∧ (nm4.toList == s.toList) = false ∧ x = (0, 5)) → Pure 8 #[.string s] (.tuple #[.int .u8 (x.1 : Int), .int .i64 (x.2 : Int)]) W := by
    intro x hx
    rcases hx with ⟨h1, rfl⟩ | ⟨h1, h2, rfl⟩ | ⟨h1, h2, h3, rfl⟩ | ⟨h1, h2, h3, h4, rfl⟩ | ⟨h1, h2, h3, h4, rfl⟩
    · go_enter Tryd.func8, Tryd.ntmps8
      go_wp2_with fail
      refine wp_loop_rounds 7 ?_
      rw [rounds_succ]
      go_wp2_with (go_at_call 22; (first | with_reducible refine K0.mono ?_ | with_reducible refine K1.mono ?_ | with_reducible refine K2.mono ?_ | with_reducible refine K3.mono ?_ | with_reducible refine K4.mono ?_); rintro e w1 ⟨rfl, rfl⟩)
      rw [rounds_succ]
      go_wp2_with (go_at_call 22; (first | with_reducible refine K0.mono ?_ | with_reducible refine K1.mono ?_ | with_reducible refine K2.mono ?_ | with_reducible refine K3.mono ?_ | with_reducible refine K4.mono ?_); rintro e w1 ⟨rfl, rfl⟩)
      go_ret2
      exact ⟨rfl, rfl⟩
    · go_enter Tryd.func8, Tryd.ntmps8
      go_wp2_with fail
      refine wp_loop_rounds 7 ?_
      rw [rounds_succ]
      go_wp2_with (go_at_call 22; (first | with_reducible refine K0.mono ?_ | with_reducible refine K1.mono ?_ | with_reducible refine K2.mono ?_ | with_reducible refine K3.mono ?_ | with_reducible refine K4.mono ?_); rintro e w1 ⟨rfl, rfl⟩)
      rw [rounds_succ]
      go_wp2_with (go_at_call 22; (first | with_reducible refine K0.mono ?_ | with_reducible refine K1.mono ?_ | with_reducible refine K2.mono ?_ | with_reducible refine K3.mono ?_ | with_reducible refine K4.mono ?_); rintro e w1 ⟨rfl, rfl⟩)
      rw [rounds_succ]
      go_wp2_with (go_at_call 22; (first | with_reducible refine K0.mono ?_ | with_reducible refine K1.mono ?_ | with_reducible refine K2.mono ?_ | with_reducible refine K3.mono ?_ | with_reducible refine K4.mono ?_); rintro e w1 ⟨rfl, rfl⟩)
      go_ret2
      exact ⟨rfl, rfl⟩
    · go_enter Tryd.func8, Tryd.ntmps8
      go_wp2_with fail
      refine wp_loop_rounds 7 ?_
      rw [rounds_succ]
      go_wp2_with (go_at_call 22; (first | with_reducible refine K0.mono ?_ | with_reducible refine K1.mono ?_ | with_reducible refine K2.mono ?_ | with_reducible refine K3.mono ?_ | with_reducible refine K4.mono ?_); rintro e w1 ⟨rfl, rfl⟩)
      rw [rounds_succ]
      go_wp2_with (go_at_call 22; (first | with_reducible refine K0.mono ?_ | with_reducible refine K1.mono ?_ | with_reducible refine K2.mono ?_ | with_reducible refine K3.mono ?_ | with_reducible refine K4.mono ?_); rintro e w1 ⟨rfl, rfl⟩)
      rw [rounds_succ]
      go_wp2_with (go_at_call 22; (first | with_reducible refine K0.mono ?_ | with_reducible refine K1.mono ?_ | with_reducible refine K2.mono ?_ | with_reducible refine K3.mono ?_ | with_reducible refine K4.mono ?_); rintro e w1 ⟨rfl, rfl⟩)
      rw [rounds_succ]
      go_wp2_with (go_at_call 22; (first | with_reducible refine K0.mono ?_ | with_reducible refine K1.mono ?_ | with_reducible refine K2.mono ?_ | with_reducible refine K3.mono ?_ | with_reducible refine K4.mono ?_); rintro e w1 ⟨rfl, rfl⟩)
      go_ret2
      exact ⟨rfl, rfl⟩
    · go_enter Tryd.func8, Tryd.ntmps8
      go_wp2_with fail
      refine wp_loop_rounds 7 ?_
      rw [rounds_succ]
      go_wp2_with (go_at_call 22; (first | with_reducible refine K0.mono ?_ | with_reducible refine K1.mono ?_ | with_reducible refine K2.mono ?_ | with_reducible refine K3.mono ?_ | with_reducible refine K4.mono ?_); rintro e w1 ⟨rfl, rfl⟩)
      rw [rounds_succ]
      go_wp2_with (go_at_call 22; (first | with_reducible refine K0.mono ?_ | with_reducible refine K1.mono ?_ | with_reducible refine K2.mono ?_ | with_reducible refine K3.mono ?_ | with_reducible refine K4.mono ?_); rintro e w1 ⟨rfl, rfl⟩)
      rw [rounds_succ]
      go_wp2_with (go_at_call 22; (first | with_reducible refine K0.mono ?_ | with_reducible refine K1.mono ?_ | with_reducible refine K2.mono ?_ | with_reducible refine K3.mono ?_ | with_reducible refine K4.mono ?_); rintro e w1 ⟨rfl, rfl⟩)
      rw [rounds_succ]
      go_wp2_with (go_at_call 22; (first | with_reducible refine K0.mono ?_ | with_reducible refine K1.mono ?_ | with_reducible refine K2.mono ?_ | with_reducible refine K3.mono ?_ | with_reducible refine K4.mono ?_); rintro e w1 ⟨rfl, rfl⟩)
      rw [rounds_succ]
      go_wp2_with (go_at_call 22; (first | with_reducible refine K0.mono ?_ | with_reducible refine K1.mono ?_ | with_reducible refine K2.mono ?_ | with_reducible refine K3.mono ?_ | with_reducible refine K4.mono ?_); rintro e w1 ⟨rfl, rfl⟩)
      go_ret2
      exact ⟨rfl, rfl⟩
    · go_enter Tryd.func8, Tryd.ntmps8
      go_wp2_with fail
      refine wp_loop_rounds 7 ?_
      rw [rounds_succ]
      go_wp2_with (go_at_call 22; (first | with_reducible refine K0.mono ?_ | with_reducible refine K1.mono ?_ | with_reducible refine K2.mono ?_ | with_reducible refine K3.mono ?_ | with_reducible refine K4.mono ?_); rintro e w1 ⟨rfl, rfl⟩)
      rw [rounds_succ]
      go_wp2_with (go_at_call 22; (first | with_reducible refine K0.mono ?_ | with_reducible refine K1.mono ?_ | with_reducible refine K2.mono ?_ | with_reducible refine K3.mono ?_ | with_reducible refine K4.mono ?_); rintro e w1 ⟨rfl, rfl⟩)
      rw [rounds_succ]
      go_wp2_with (go_at_call 22; (first | with_reducible refine K0.mono ?_ | with_reducible refine K1.mono ?_ | with_reducible refine K2.mono ?_ | with_reducible refine K3.mono ?_ | with_reducible refine K4.mono ?_); rintro e w1 ⟨rfl, rfl⟩)
      rw [rounds_succ]
      go_wp2_with (go_at_call 22; (first | with_reducible refine K0.mono ?_ | with_reducible refine K1.mono ?_ | with_reducible refine K2.mono ?_ | with_reducible refine K3.mono ?_ | with_reducible refine K4.mono ?_); rintro e w1 ⟨rfl, rfl⟩)
      rw [rounds_succ]
      go_wp2_with (go_at_call 22; (first | with_reducible refine K0.mono ?_ | with_reducible refine K1.mono ?_ | with_reducible refine K2.mono ?_ | with_reducible refine K3.mono ?_ | with_reducible refine K4.mono ?_); rintro e w1 ⟨rfl, rfl⟩)
      rw [rounds_succ]
      go_wp2_with (go_at_call 22; (first | with_reducible refine K0.mono ?_ | with_reducible refine K1.mono ?_ | with_reducible refine K2.mono ?_ | with_reducible refine K3.mono ?_ | with_reducible refine K4.mono ?_); rintro e w1 ⟨rfl, rfl⟩)
      go_ret2
      exact ⟨rfl, rfl⟩
  refine step _ ?_
  unfold parse
  cases h1 : (nm1.toList == s.toList) <;> cases h2 : (nm2.toList == s.toList) <;> cases h3 : (nm3.toList == s.toList) <;> cases h4 : (nm4.toList == s.toList) <;> simp
end
end Go.Proofs.YtfhihkgaokhjbaaDoor
