/-
  The walks over the program's own text of layer 3: which bytes, texts, EVRs may be. What the walks ask of the program's May, Show and Parse of EVRs, and what these answer. The walks over the program's own text of layer 6, and over the document's answer: which dependencies may be. Conditions: the array of words that are no names lies as the program's text lays it. A strings.Builder of the call's own: what its methods do to it; the library's copy check is left out where it would be refused. A builder of the call's own: what is written to it, as bytes; what stands beside it. strconv.Itoa and strconv.Atoi, where the library's table and its two errors lie as its text lays them. The walk over the program's own Show: the text of an EVR, put together in a builder. strings.Clone: the same text; what was there lies as it lay. The walk over the program's own split: what stands in a text for an epoch, a version, a release. The walk over the program's own Parse: the EVR of a text. The walks over the program's own text of layer 6: the dependency of words. Conditions: the library's variables and the array of words that are no names lie as their texts lay them. The walk over the program's own text of layer 6: Own. The walks over the program's own text of layer 10: Own, meets, Named, Obsoletes, Provides. The walks over what the program asks of a list: whether any dependency, or text, in it is such; what a package obsoletes, and provides. Conditions: as each theorem states.
-/
import Derived.Test.YtpdoeapjdifmbaaGreatDoorK08
import Derived.Test.YtpdoeapjdifmbaaGreatDoorK09
import Derived.Test.YtpdoeapjdifmbaaGreatDoorK01
import Derived.Test.YtpdoeapjdifmbaaGreatDoorRows
import Derived.Handy
import Derived.Lib.Hide
import Derived.WalkKit
import Derived.Shelf.Strings.BuilderK
import Derived.Lib.Builder
import Derived.Lib.FrozenHead2
import Derived.OwnWalk
import Derived.Shelf.Strconv.Itoa3
import Derived.Shelf.Strconv.AtoiAll
import Derived.Shelf.Strconv.ErrVarAll
import Derived.Lib.AppendIntMem
import Derived.Lib.LaidTab
import Derived.Shelf.Strconv.Clone
import Derived.Deep.RegionWith
import Derived.BigRegion
import Derived.Test.YtpdoeapjdifmbaaGreatDoorK02
import Derived.LoopN
namespace Go.Proofs.YtpdoeapjdifmbaaGreatDoor
open Go.RowKit Ver Evr

set_option maxRecDepth 100000 in
theorem mayByte_walk (b : UInt8) (w : World) :
    Calls Tryz.prog 179 #[.int .u8 (b.toNat : Int)] w fun e w' => e = .returned (.bool (okB b)) ∧ w = w' := by
  have hb : b.toNat < 256 := UInt8.toNat_lt b
  by_cases c3 : (97 ≤ b.toNat ∧ b.toNat ≤ 122) ∨ (65 ≤ b.toNat ∧ b.toNat ≤ 90) ∨ (48 ≤ b.toNat ∧ b.toNat ≤ 57)
  · have fin := Lib.hid (show okB b = true by unfold okB; simp; omega)
    rcases c3 with ⟨a1, a2⟩ | ⟨a1, a2⟩ | ⟨a1, a2⟩
    all_goals
      go_enter Tryz.func179, Tryz.ntmps179
      go_wp2_with fail
      go_ret
      exact ⟨by rw [fin.out]; rfl, rfl⟩
  · have hI := fun W => index_sign b W
    have h1 := sign_index b
    have fin := Lib.hid (show okB b = decide (0 ≤ Lib.indexByte [46, 95, 43, 126, 94] b) by
      rw [h1]
      unfold okB
      have e1 : decide (97 ≤ b.toNat ∧ b.toNat ≤ 122) = false := by simp; omega
      have e2 : decide (65 ≤ b.toNat ∧ b.toNat ≤ 90) = false := by simp; omega
      have e3 : decide (48 ≤ b.toNat ∧ b.toNat ≤ 57) = false := by simp; omega
      rw [e1, e2, e3]
      simp)
    have hc : b.toNat < 48 ∨ (57 < b.toNat ∧ b.toNat < 65) ∨ (90 < b.toNat ∧ b.toNat < 97) ∨ 122 < b.toNat := by omega
    generalize Lib.indexByte [46, 95, 43, 126, 94] b = ix at *
    clear h1 c3
    rcases hc with hc | ⟨hc, hd⟩ | ⟨hc, hd⟩ | hc
    all_goals
      go_enter Tryz.func179, Tryz.ntmps179
      go_wp2_with (first | (go_at_call 199; with_reducible refine (hI _).mono ?_; rintro e w1 ⟨rfl, rfl⟩) | fail)
      go_ret
      exact ⟨by rw [fin.out]; rfl, rfl⟩

theorem word_long {s : List UInt8} (h : 64 < s.length) : wordE s = false := by
  unfold wordE
  rw [show decide (s.length ≤ 64) = false by simp; omega]
  simp
theorem word_all {s : List UInt8} (h1 : 1 ≤ s.length) (h2 : s.length ≤ 64) (h : s.all okB = true) : wordE s = true := by
  unfold wordE
  rw [h]
  simp [h1, h2]
set_option maxRecDepth 100000 in
set_option maxHeartbeats 1000000 in
theorem mayText_walk (s : ByteArray) (w : World) :
    Calls Tryz.prog 140 #[.string s] w fun e w' => e = .returned (.bool (wordE s.data.toList)) ∧ w = w' := by
  by_cases h0 : s = ⟨#[]⟩
  · subst h0
    go_enter Tryz.func140, Tryz.ntmps140
    go_wp2_with fail
    go_ret
    exact ⟨rfl, rfl⟩
  · obtain ⟨b1, b2⟩ := text_ne h0
    have hsl : s.data.toList.length = s.size := rfl
    have hs1 : 1 ≤ s.size := by
      rcases Nat.eq_zero_or_pos s.size with h | h
      · exact absurd (empty_text.1 (List.eq_nil_of_length_eq_zero (by rw [hsl]; exact h))) h0
      · exact h
    clear h0
    by_cases h1 : 64 < s.size
    · have HN := Lib.hid (@word_long s.data.toList (by rw [hsl]; exact h1))
      have h1' : (64 : Int) < (s.size : Int) := by omega
      clear hsl
      go_enter Tryz.func140, Tryz.ntmps140
      go_wp2_with fail
      go_ret
      exact ⟨by rw [HN.out]; rfl, rfl⟩
    · have h1' : ¬ (64 : Int) < (s.size : Int) := by omega
      have HY := Lib.hid (fun h => @word_all s.data.toList (by rw [hsl]; exact hs1) (by rw [hsl]; omega) h)
      have HSL := Lib.hid hsl
      clear hsl
      go_enter Tryz.func140, Tryz.ntmps140
      go_wp2_with fail
      go_loop [13] (fun v => ∃ i : Nat, v = .int .i64 (i : Int) ∧ i ≤ s.size ∧ (s.data.toList.take i).all okB = true) (fun v => s.size - (intOf v).toNat)
      case atStart => exact ⟨0, rfl, Nat.zero_le _, rfl⟩
      case round =>
        obtain ⟨i, rfl, hi, ha⟩ := hrel
        have HA := Lib.hid ha
        clear ha
        by_cases hlt : i < s.size
        · obtain ⟨c, hc⟩ : ∃ c, c = s[i] := ⟨_, rfl⟩
          have HCL := Lib.hid (char_at hlt hc)
          have hc' : s[i] = c := hc.symm
          have hM := fun W => mayByte_walk c W
          clear hc
          cases hok : okB c with
          | true =>
            rw [hok] at hM
            have HOK := Lib.hid hok
            clear hok
            go_wp2_with (first | (go_at_call 179; with_reducible refine (hM _).mono ?_; rintro e w1 ⟨rfl, rfl⟩) | fail)
            go_round
            case rel => exact ⟨i + 1, by go_num, by omega, take_ok HA.out HCL.out HOK.out⟩
            case measure => simp [intOf]; omega
          | false =>
            rw [hok] at hM
            have HN := Lib.hid (word_not HCL.out hok)
            clear hok
            go_wp2_with (first | (go_at_call 179; with_reducible refine (hM _).mono ?_; rintro e w1 ⟨rfl, rfl⟩) | fail)
            go_ret
            exact ⟨by rw [HN.out]; rfl, rfl⟩
        · obtain rfl : i = s.size := by omega
          have HF := Lib.hid (HY.out (by have := HA.out; rwa [List.take_of_length_le (by rw [HSL.out]; exact Nat.le_refl _)] at this))
          go_wp2_with fail
          go_ret
          exact ⟨by rw [HF.out]; rfl, rfl⟩

set_option maxRecDepth 100000 in
set_option maxHeartbeats 1000000 in
theorem mayK_walk (n : Int) (v r : ByteArray) (dep : Bool) (w : World) :
    Calls Tryz.prog 109 #[.agg #[.int .i64 n, .string v, .string r], .bool dep] w fun e w' => e = .returned (.bool (mayE (evrE n v r) dep)) ∧ Kept (fun _ => False) w w' := by
  have W1 := fun w => mayText_walk v w
  have W2 := fun w => mayText_walk r w
  by_cases h0 : n < 0
  · have HN := Lib.hid (@may_low n v r dep (.inl h0))
    have g0 : decide (n < 0) = true := by simp [h0]
    clear h0
    go_enter Tryz.func109, Tryz.ntmps109
    go_wp2_with fail
    go_ret
    exact ⟨by rw [HN.out]; rfl, (Kept.refl _ _).alloc _⟩
  · by_cases h1 : 2147483647 < n
    · have HN := Lib.hid (@may_low n v r dep (.inr h1))
      have g0 : decide (n < 0) = false := by simp; omega
      have g1 : decide (2147483647 < n) = true := by simp [h1]
      clear h1 h0
      go_enter Tryz.func109, Tryz.ntmps109
      go_wp2_with fail
      go_ret
      exact ⟨by rw [HN.out]; rfl, (Kept.refl _ _).alloc _⟩
    · have g0 : decide (n < 0) = false := by simp; omega
      have g1 : decide (2147483647 < n) = false := by simp; omega
      by_cases hw : wordE v.data.toList = true
      · by_cases hr0 : r = ⟨#[]⟩
        · subst hr0
          have HN := Lib.hid (@may_dep n v dep (by omega) (by omega) hw)
          rw [hw] at W1
          rw [show wordE (⟨#[]⟩ : ByteArray).data.toList = false from rfl] at W2
          clear h1 h0 hw
          cases dep
          all_goals
            go_enter Tryz.func109, Tryz.ntmps109
            go_wp2_with (first | (go_at_call 140; (first | (with_reducible refine (W1 _).mono ?_) | (with_reducible refine (W2 _).mono ?_)); rintro e w1 ⟨rfl, rfl⟩) | fail)
            go_ret
            exact ⟨by rw [HN.out]; rfl, (Kept.refl _ _).alloc _⟩
        · have HN := Lib.hid (@may_rel n v r dep (by omega) (by omega) hw hr0)
          obtain ⟨b1, b2⟩ := text_ne hr0
          rw [hw] at W1
          clear h1 h0 hw hr0
          generalize wordE r.data.toList = wr at W2 HN
          cases wr
          all_goals
            cases dep
            all_goals
              go_enter Tryz.func109, Tryz.ntmps109
              go_wp2_with (first | (go_at_call 140; (first | (with_reducible refine (W1 _).mono ?_) | (with_reducible refine (W2 _).mono ?_)); rintro e w1 ⟨rfl, rfl⟩) | fail)
              go_ret
              exact ⟨by rw [HN.out]; rfl, (Kept.refl _ _).alloc _⟩
      · have hw' : wordE v.data.toList = false := by simpa using hw
        have HN := Lib.hid (@may_ver n v r dep hw')
        rw [hw'] at W1
        clear h1 h0 hw hw'
        go_enter Tryz.func109, Tryz.ntmps109
        go_wp2_with (first | (go_at_call 140; with_reducible refine (W1 _).mono ?_; rintro e w1 ⟨rfl, rfl⟩) | fail)
        go_ret
        exact ⟨by rw [HN.out]; rfl, (Kept.refl _ _).alloc _⟩
end Go.Proofs.YtpdoeapjdifmbaaGreatDoor

namespace Go.Proofs.YtpdoeapjdifmbaaGreatDoor
open Go.RowKit Ver Evr

theorem three {w w3 : World} (h : Kept (fun _ => False) w w3) (a b c : Value) : Kept (fun _ => False) w (((w3.setCell ⟨w.heap.size, 0, none⟩ a).setCell ⟨w.heap.size, 1, none⟩ b).setCell ⟨w.heap.size, 2, none⟩ c) :=
  ((h.setCell (p := ⟨w.heap.size, 0, none⟩) (.inr (Nat.le_refl _)) _).setCell (p := ⟨w.heap.size, 1, none⟩) (.inr (Nat.le_refl _)) _).setCell (p := ⟨w.heap.size, 2, none⟩) (.inr (Nat.le_refl _)) _
end Go.Proofs.YtpdoeapjdifmbaaGreatDoor

namespace Go.Proofs.YtpdoeapjdifmbaaGreatDoor
open Go.RowKit Ver Evr Span Dep

/-- A dependency as the program has it. -/
abbrev dD (nm : ByteArray) (o : Nat) (n : Int) (v r : ByteArray) : D := ⟨nm.data.toList, o, evrE n v r⟩
theorem same_kept {P : Program} {f : FuncId} {args : Array Value} {w : World} {v : Value} (h : Calls P f args w fun e w' => e = .returned v ∧ w' = w) : Calls P f args w fun e w' => e = .returned v ∧ Kept (fun _ => False) w w' :=
  h.mono fun _ _ ⟨h1, h2⟩ => ⟨h1, by rw [h2]; exact Kept.refl _ _⟩
theorem may_name {nm : ByteArray} {o : Nat} {n : Int} {v r : ByteArray} (h : nameD nm.data.toList = false) : mayD (dD nm o n v r) = false := by unfold mayD; simp [h]
theorem may_op0 {nm : ByteArray} {o : Nat} {n : Int} {v r : ByteArray} (h : mayO o = false) : mayD (dD nm o n v r) = false := by unfold mayD; simp [h]
theorem may_none {nm : ByteArray} {n : Int} {v r : ByteArray} (h : nameD nm.data.toList = true) : mayD (dD nm 0 n v r) = noE (evrE n v r) := by rw [may_any, h, Bool.true_and]
theorem may_some {nm : ByteArray} {o : Nat} {n : Int} {v r : ByteArray} (h : nameD nm.data.toList = true) (ho : mayO o = true) (h0 : o ≠ 0) : mayD (dD nm o n v r) = (!fileD nm.data.toList && mayE (evrE n v r) true) := by rw [may_op h0, h, ho, Bool.true_and, Bool.true_and]
theorem noE_cases (n : Int) (v r : ByteArray) : (n = 0 ∧ v = ⟨#[]⟩ ∧ r = ⟨#[]⟩ ∧ noE (evrE n v r) = true) ∨ (noE (evrE n v r) = false ∧ (n ≠ 0 ∨ (n = 0 ∧ v ≠ ⟨#[]⟩) ∨ (n = 0 ∧ v = ⟨#[]⟩ ∧ r ≠ ⟨#[]⟩))) := by
  by_cases h1 : n = 0
  · by_cases h2 : v = ⟨#[]⟩
    · by_cases h3 : r = ⟨#[]⟩
      · exact .inl ⟨h1, h2, h3, by subst h1; subst h2; subst h3; rfl⟩
      · exact .inr ⟨by unfold noE evrE; simp; intro _ _ h; exact h3 (ByteArray.ext h), .inr (.inr ⟨h1, h2, h3⟩)⟩
    · exact .inr ⟨by unfold noE evrE; simp; intro _ h; exact absurd (ByteArray.ext h) h2, .inr (.inl ⟨h1, h2⟩)⟩
  · exact .inr ⟨by unfold noE evrE; simp [h1], .inl h1⟩

theorem isEmpty_ne {r : ByteArray} (h : r ≠ ⟨#[]⟩) : r.toList.isEmpty = false := by
  cases hr : r.toList with
  | nil => exact absurd hr (text_ne h).2
  | cons _ _ => rfl
set_option maxRecDepth 100000 in
set_option maxHeartbeats 2000000 in
theorem may6p_A (nm : ByteArray) (o : Nat) (n : Int) (v r : ByteArray) (w : World) (hN : (∀ W, Kept (fun _ => False) w W → Calls Tryz.prog 107 #[.string nm] W fun e w' => e = .returned (.bool false) ∧ Kept (fun _ => False) W w')) : Calls Tryz.prog 112 #[.agg #[.string nm, .int .u8 (o : Int), .int .i64 n, .string v, .string r]] w fun e w' => e = .returned (.bool false) ∧ Kept (fun _ => False) w w' := by
    have HA := Lib.hid (Box.made w 60 #[.string nm, .int .u8 (o : Int), .int .i64 n, .string v, .string r])
    have HK := Lib.hid ((Kept.refl (fun _ => False) w).alloc (.cells #[.string nm, .int .u8 (o : Int), .int .i64 n, .string v, .string r] 60))
    go_enter Tryz.func112, Tryz.ntmps112
    go_wp2_with (first
      | (go_at_call 107; with_reducible refine (hN _ HK.out).mono ?_; rintro e w5 ⟨rfl, hk5⟩; have HA := Lib.hid (hk5.box HA.out (fun h => h)); have HK := Lib.hid (Kept.trans HK.out hk5 (fun _ _ h => h)); have ax0 := HA.out.cell 0; have ax1 := HA.out.cell 1; have ax2 := HA.out.cell 2; have ax3 := HA.out.cell 3; have ax4 := HA.out.cell 4; clear hk5)
      | fail)
    go_ret
    exact ⟨rfl, HK.out⟩
set_option maxRecDepth 100000 in
set_option maxHeartbeats 2000000 in
theorem may6p_B (nm : ByteArray) (o : Nat) (n : Int) (v r : ByteArray) (w : World) (hN : (∀ W, Kept (fun _ => False) w W → Calls Tryz.prog 107 #[.string nm] W fun e w' => e = .returned (.bool true) ∧ Kept (fun _ => False) W w')) (hS : (∀ W, Kept (fun _ => False) w W → Calls Tryz.prog 143 #[.int .u8 (o : Int)] W fun e w' => e = .returned (.bool false) ∧ Kept (fun _ => False) W w')) : Calls Tryz.prog 112 #[.agg #[.string nm, .int .u8 (o : Int), .int .i64 n, .string v, .string r]] w fun e w' => e = .returned (.bool false) ∧ Kept (fun _ => False) w w' := by
    have HA := Lib.hid (Box.made w 60 #[.string nm, .int .u8 (o : Int), .int .i64 n, .string v, .string r])
    have HK := Lib.hid ((Kept.refl (fun _ => False) w).alloc (.cells #[.string nm, .int .u8 (o : Int), .int .i64 n, .string v, .string r] 60))
    go_enter Tryz.func112, Tryz.ntmps112
    go_wp2_with (first
      | (go_at_call 107; with_reducible refine (hN _ HK.out).mono ?_; rintro e w5 ⟨rfl, hk5⟩; have HA := Lib.hid (hk5.box HA.out (fun h => h)); have HK := Lib.hid (Kept.trans HK.out hk5 (fun _ _ h => h)); have ax0 := HA.out.cell 0; have ax1 := HA.out.cell 1; have ax2 := HA.out.cell 2; have ax3 := HA.out.cell 3; have ax4 := HA.out.cell 4; clear hk5)
      | (go_at_call 143; with_reducible refine (hS _ HK.out).mono ?_; rintro e w5 ⟨rfl, hk5⟩; have HA := Lib.hid (hk5.box HA.out (fun h => h)); have HK := Lib.hid (Kept.trans HK.out hk5 (fun _ _ h => h)); have ax0 := HA.out.cell 0; have ax1 := HA.out.cell 1; have ax2 := HA.out.cell 2; have ax3 := HA.out.cell 3; have ax4 := HA.out.cell 4; clear hk5)
      | fail)
    go_ret
    exact ⟨rfl, HK.out⟩
set_option maxRecDepth 100000 in
set_option maxHeartbeats 2000000 in
theorem may6p_C0 (nm : ByteArray) (w : World) (hN : (∀ W, Kept (fun _ => False) w W → Calls Tryz.prog 107 #[.string nm] W fun e w' => e = .returned (.bool true) ∧ Kept (fun _ => False) W w')) (hS : (∀ W, Kept (fun _ => False) w W → Calls Tryz.prog 143 #[.int .u8 0] W fun e w' => e = .returned (.bool true) ∧ Kept (fun _ => False) W w')) : Calls Tryz.prog 112 #[.agg #[.string nm, .int .u8 0, .int .i64 0, .string ⟨#[]⟩, .string ⟨#[]⟩]] w fun e w' => e = .returned (.bool true) ∧ Kept (fun _ => False) w w' := by
    have HA := Lib.hid (Box.made w 60 #[.string nm, .int .u8 0, .int .i64 0, .string ⟨#[]⟩, .string ⟨#[]⟩])
    have HK := Lib.hid ((Kept.refl (fun _ => False) w).alloc (.cells #[.string nm, .int .u8 0, .int .i64 0, .string ⟨#[]⟩, .string ⟨#[]⟩] 60))
    go_enter Tryz.func112, Tryz.ntmps112
    go_wp2_with (first
      | (go_at_call 107; with_reducible refine (hN _ HK.out).mono ?_; rintro e w5 ⟨rfl, hk5⟩; have HA := Lib.hid (hk5.box HA.out (fun h => h)); have HK := Lib.hid (Kept.trans HK.out hk5 (fun _ _ h => h)); have ax0 := HA.out.cell 0; have ax1 := HA.out.cell 1; have ax2 := HA.out.cell 2; have ax3 := HA.out.cell 3; have ax4 := HA.out.cell 4; clear hk5)
      | (go_at_call 143; with_reducible refine (hS _ HK.out).mono ?_; rintro e w5 ⟨rfl, hk5⟩; have HA := Lib.hid (hk5.box HA.out (fun h => h)); have HK := Lib.hid (Kept.trans HK.out hk5 (fun _ _ h => h)); have ax0 := HA.out.cell 0; have ax1 := HA.out.cell 1; have ax2 := HA.out.cell 2; have ax3 := HA.out.cell 3; have ax4 := HA.out.cell 4; clear hk5)
      | fail)
    go_ret
    exact ⟨rfl, HK.out⟩
set_option maxRecDepth 100000 in
set_option maxHeartbeats 2000000 in
theorem may6p_C1 (nm : ByteArray) (n : Int) (v r : ByteArray) (w : World) (hN : (∀ W, Kept (fun _ => False) w W → Calls Tryz.prog 107 #[.string nm] W fun e w' => e = .returned (.bool true) ∧ Kept (fun _ => False) W w')) (hS : (∀ W, Kept (fun _ => False) w W → Calls Tryz.prog 143 #[.int .u8 0] W fun e w' => e = .returned (.bool true) ∧ Kept (fun _ => False) W w')) (hn : (n == 0) = false) : Calls Tryz.prog 112 #[.agg #[.string nm, .int .u8 0, .int .i64 n, .string v, .string r]] w fun e w' => e = .returned (.bool false) ∧ Kept (fun _ => False) w w' := by
    have HA := Lib.hid (Box.made w 60 #[.string nm, .int .u8 0, .int .i64 n, .string v, .string r])
    have HK := Lib.hid ((Kept.refl (fun _ => False) w).alloc (.cells #[.string nm, .int .u8 0, .int .i64 n, .string v, .string r] 60))
    go_enter Tryz.func112, Tryz.ntmps112
    go_wp2_with (first
      | (go_at_call 107; with_reducible refine (hN _ HK.out).mono ?_; rintro e w5 ⟨rfl, hk5⟩; have HA := Lib.hid (hk5.box HA.out (fun h => h)); have HK := Lib.hid (Kept.trans HK.out hk5 (fun _ _ h => h)); have ax0 := HA.out.cell 0; have ax1 := HA.out.cell 1; have ax2 := HA.out.cell 2; have ax3 := HA.out.cell 3; have ax4 := HA.out.cell 4; clear hk5)
      | (go_at_call 143; with_reducible refine (hS _ HK.out).mono ?_; rintro e w5 ⟨rfl, hk5⟩; have HA := Lib.hid (hk5.box HA.out (fun h => h)); have HK := Lib.hid (Kept.trans HK.out hk5 (fun _ _ h => h)); have ax0 := HA.out.cell 0; have ax1 := HA.out.cell 1; have ax2 := HA.out.cell 2; have ax3 := HA.out.cell 3; have ax4 := HA.out.cell 4; clear hk5)
      | fail)
    go_ret
    exact ⟨rfl, HK.out⟩
set_option maxRecDepth 100000 in
set_option maxHeartbeats 2000000 in
theorem may6p_C2 (nm : ByteArray) (v r : ByteArray) (w : World) (hN : (∀ W, Kept (fun _ => False) w W → Calls Tryz.prog 107 #[.string nm] W fun e w' => e = .returned (.bool true) ∧ Kept (fun _ => False) W w')) (hS : (∀ W, Kept (fun _ => False) w W → Calls Tryz.prog 143 #[.int .u8 0] W fun e w' => e = .returned (.bool true) ∧ Kept (fun _ => False) W w')) (hn : v ≠ ⟨#[]⟩) : Calls Tryz.prog 112 #[.agg #[.string nm, .int .u8 0, .int .i64 0, .string v, .string r]] w fun e w' => e = .returned (.bool false) ∧ Kept (fun _ => False) w w' := by
    obtain ⟨g1, g2⟩ := text_ne hn
    have g3 := isEmpty_ne hn
    have HA := Lib.hid (Box.made w 60 #[.string nm, .int .u8 0, .int .i64 0, .string v, .string r])
    have HK := Lib.hid ((Kept.refl (fun _ => False) w).alloc (.cells #[.string nm, .int .u8 0, .int .i64 0, .string v, .string r] 60))
    go_enter Tryz.func112, Tryz.ntmps112
    go_wp2_with (first
      | (go_at_call 107; with_reducible refine (hN _ HK.out).mono ?_; rintro e w5 ⟨rfl, hk5⟩; have HA := Lib.hid (hk5.box HA.out (fun h => h)); have HK := Lib.hid (Kept.trans HK.out hk5 (fun _ _ h => h)); have ax0 := HA.out.cell 0; have ax1 := HA.out.cell 1; have ax2 := HA.out.cell 2; have ax3 := HA.out.cell 3; have ax4 := HA.out.cell 4; clear hk5)
      | (go_at_call 143; with_reducible refine (hS _ HK.out).mono ?_; rintro e w5 ⟨rfl, hk5⟩; have HA := Lib.hid (hk5.box HA.out (fun h => h)); have HK := Lib.hid (Kept.trans HK.out hk5 (fun _ _ h => h)); have ax0 := HA.out.cell 0; have ax1 := HA.out.cell 1; have ax2 := HA.out.cell 2; have ax3 := HA.out.cell 3; have ax4 := HA.out.cell 4; clear hk5)
      | fail)
    go_ret
    exact ⟨rfl, HK.out⟩
set_option maxRecDepth 100000 in
set_option maxHeartbeats 2000000 in
theorem may6p_C3 (nm : ByteArray) (r : ByteArray) (w : World) (hN : (∀ W, Kept (fun _ => False) w W → Calls Tryz.prog 107 #[.string nm] W fun e w' => e = .returned (.bool true) ∧ Kept (fun _ => False) W w')) (hS : (∀ W, Kept (fun _ => False) w W → Calls Tryz.prog 143 #[.int .u8 0] W fun e w' => e = .returned (.bool true) ∧ Kept (fun _ => False) W w')) (hn : r ≠ ⟨#[]⟩) : Calls Tryz.prog 112 #[.agg #[.string nm, .int .u8 0, .int .i64 0, .string ⟨#[]⟩, .string r]] w fun e w' => e = .returned (.bool false) ∧ Kept (fun _ => False) w w' := by
    obtain ⟨g1, g2⟩ := text_ne hn
    have g3 := isEmpty_ne hn
    have HA := Lib.hid (Box.made w 60 #[.string nm, .int .u8 0, .int .i64 0, .string ⟨#[]⟩, .string r])
    have HK := Lib.hid ((Kept.refl (fun _ => False) w).alloc (.cells #[.string nm, .int .u8 0, .int .i64 0, .string ⟨#[]⟩, .string r] 60))
    go_enter Tryz.func112, Tryz.ntmps112
    go_wp2_with (first
      | (go_at_call 107; with_reducible refine (hN _ HK.out).mono ?_; rintro e w5 ⟨rfl, hk5⟩; have HA := Lib.hid (hk5.box HA.out (fun h => h)); have HK := Lib.hid (Kept.trans HK.out hk5 (fun _ _ h => h)); have ax0 := HA.out.cell 0; have ax1 := HA.out.cell 1; have ax2 := HA.out.cell 2; have ax3 := HA.out.cell 3; have ax4 := HA.out.cell 4; clear hk5)
      | (go_at_call 143; with_reducible refine (hS _ HK.out).mono ?_; rintro e w5 ⟨rfl, hk5⟩; have HA := Lib.hid (hk5.box HA.out (fun h => h)); have HK := Lib.hid (Kept.trans HK.out hk5 (fun _ _ h => h)); have ax0 := HA.out.cell 0; have ax1 := HA.out.cell 1; have ax2 := HA.out.cell 2; have ax3 := HA.out.cell 3; have ax4 := HA.out.cell 4; clear hk5)
      | fail)
    go_ret
    exact ⟨rfl, HK.out⟩
set_option maxRecDepth 100000 in
set_option maxHeartbeats 2000000 in
theorem may6p_D (nm : ByteArray) (o : Nat) (n : Int) (v r : ByteArray) (w : World) (h0 : ((o : Int) == 0) = false) (hN : (∀ W, Kept (fun _ => False) w W → Calls Tryz.prog 107 #[.string nm] W fun e w' => e = .returned (.bool true) ∧ Kept (fun _ => False) W w')) (hS : (∀ W, Kept (fun _ => False) w W → Calls Tryz.prog 143 #[.int .u8 (o : Int)] W fun e w' => e = .returned (.bool true) ∧ Kept (fun _ => False) W w')) (hF : (∀ W, Kept (fun _ => False) w W → Calls Tryz.prog 108 #[.string nm] W fun e w' => e = .returned (.bool true) ∧ Kept (fun _ => False) W w')) : Calls Tryz.prog 112 #[.agg #[.string nm, .int .u8 (o : Int), .int .i64 n, .string v, .string r]] w fun e w' => e = .returned (.bool false) ∧ Kept (fun _ => False) w w' := by
    have HA := Lib.hid (Box.made w 60 #[.string nm, .int .u8 (o : Int), .int .i64 n, .string v, .string r])
    have HK := Lib.hid ((Kept.refl (fun _ => False) w).alloc (.cells #[.string nm, .int .u8 (o : Int), .int .i64 n, .string v, .string r] 60))
    go_enter Tryz.func112, Tryz.ntmps112
    go_wp2_with (first
      | (go_at_call 107; with_reducible refine (hN _ HK.out).mono ?_; rintro e w5 ⟨rfl, hk5⟩; have HA := Lib.hid (hk5.box HA.out (fun h => h)); have HK := Lib.hid (Kept.trans HK.out hk5 (fun _ _ h => h)); have ax0 := HA.out.cell 0; have ax1 := HA.out.cell 1; have ax2 := HA.out.cell 2; have ax3 := HA.out.cell 3; have ax4 := HA.out.cell 4; clear hk5)
      | (go_at_call 143; with_reducible refine (hS _ HK.out).mono ?_; rintro e w5 ⟨rfl, hk5⟩; have HA := Lib.hid (hk5.box HA.out (fun h => h)); have HK := Lib.hid (Kept.trans HK.out hk5 (fun _ _ h => h)); have ax0 := HA.out.cell 0; have ax1 := HA.out.cell 1; have ax2 := HA.out.cell 2; have ax3 := HA.out.cell 3; have ax4 := HA.out.cell 4; clear hk5)
      | (go_at_call 108; with_reducible refine (hF _ HK.out).mono ?_; rintro e w5 ⟨rfl, hk5⟩; have HA := Lib.hid (hk5.box HA.out (fun h => h)); have HK := Lib.hid (Kept.trans HK.out hk5 (fun _ _ h => h)); have ax0 := HA.out.cell 0; have ax1 := HA.out.cell 1; have ax2 := HA.out.cell 2; have ax3 := HA.out.cell 3; have ax4 := HA.out.cell 4; clear hk5)
      | fail)
    go_ret
    exact ⟨rfl, HK.out⟩
set_option maxRecDepth 100000 in
set_option maxHeartbeats 2000000 in
theorem may6p_E (nm : ByteArray) (o : Nat) (n : Int) (v r : ByteArray) (w : World) (h0 : ((o : Int) == 0) = false) (hN : (∀ W, Kept (fun _ => False) w W → Calls Tryz.prog 107 #[.string nm] W fun e w' => e = .returned (.bool true) ∧ Kept (fun _ => False) W w')) (hS : (∀ W, Kept (fun _ => False) w W → Calls Tryz.prog 143 #[.int .u8 (o : Int)] W fun e w' => e = .returned (.bool true) ∧ Kept (fun _ => False) W w')) (x : Bool) (hF : (∀ W, Kept (fun _ => False) w W → Calls Tryz.prog 108 #[.string nm] W fun e w' => e = .returned (.bool false) ∧ Kept (fun _ => False) W w')) (hE : (∀ W, Kept (fun _ => False) w W → Calls Tryz.prog 109 #[.agg #[.int .i64 n, .string v, .string r], .bool true] W fun e w' => e = .returned (.bool x) ∧ Kept (fun _ => False) W w')) : Calls Tryz.prog 112 #[.agg #[.string nm, .int .u8 (o : Int), .int .i64 n, .string v, .string r]] w fun e w' => e = .returned (.bool x) ∧ Kept (fun _ => False) w w' := by
    have HA := Lib.hid (Box.made w 60 #[.string nm, .int .u8 (o : Int), .int .i64 n, .string v, .string r])
    have HK := Lib.hid ((Kept.refl (fun _ => False) w).alloc (.cells #[.string nm, .int .u8 (o : Int), .int .i64 n, .string v, .string r] 60))
    go_enter Tryz.func112, Tryz.ntmps112
    go_wp2_with (first
      | (go_at_call 107; with_reducible refine (hN _ HK.out).mono ?_; rintro e w5 ⟨rfl, hk5⟩; have HA := Lib.hid (hk5.box HA.out (fun h => h)); have HK := Lib.hid (Kept.trans HK.out hk5 (fun _ _ h => h)); have ax0 := HA.out.cell 0; have ax1 := HA.out.cell 1; have ax2 := HA.out.cell 2; have ax3 := HA.out.cell 3; have ax4 := HA.out.cell 4; clear hk5)
      | (go_at_call 143; with_reducible refine (hS _ HK.out).mono ?_; rintro e w5 ⟨rfl, hk5⟩; have HA := Lib.hid (hk5.box HA.out (fun h => h)); have HK := Lib.hid (Kept.trans HK.out hk5 (fun _ _ h => h)); have ax0 := HA.out.cell 0; have ax1 := HA.out.cell 1; have ax2 := HA.out.cell 2; have ax3 := HA.out.cell 3; have ax4 := HA.out.cell 4; clear hk5)
      | (go_at_call 108; with_reducible refine (hF _ HK.out).mono ?_; rintro e w5 ⟨rfl, hk5⟩; have HA := Lib.hid (hk5.box HA.out (fun h => h)); have HK := Lib.hid (Kept.trans HK.out hk5 (fun _ _ h => h)); have ax0 := HA.out.cell 0; have ax1 := HA.out.cell 1; have ax2 := HA.out.cell 2; have ax3 := HA.out.cell 3; have ax4 := HA.out.cell 4; clear hk5)
      | (go_at_call 109; with_reducible refine (hE _ HK.out).mono ?_; rintro e w5 ⟨rfl, hk5⟩; have HA := Lib.hid (hk5.box HA.out (fun h => h)); have HK := Lib.hid (Kept.trans HK.out hk5 (fun _ _ h => h)); have ax0 := HA.out.cell 0; have ax1 := HA.out.cell 1; have ax2 := HA.out.cell 2; have ax3 := HA.out.cell 3; have ax4 := HA.out.cell 4; clear hk5)
      | fail)
    go_ret
    exact ⟨rfl, HK.out⟩
theorem may6p_walk (nm : ByteArray) (o : Nat) (ho : o < 256) (n : Int) (v r : ByteArray) (w : World) (hW : NotW w) : Calls Tryz.prog 112 #[depV nm o n v r] w fun e w' => e = .returned (.bool (mayD (dD nm o n v r))) ∧ Kept (fun _ => False) w w' := by
  have hN : ∀ W, Kept (fun _ => False) w W → Calls Tryz.prog 107 #[.string nm] W fun e w' => e = .returned (.bool (nameD nm.data.toList)) ∧ Kept (fun _ => False) W w' := fun W hk => name_walk nm W (hW.kept hk)
  have hF : ∀ W, Kept (fun _ => False) w W → Calls Tryz.prog 108 #[.string nm] W fun e w' => e = .returned (.bool (fileD nm.data.toList)) ∧ Kept (fun _ => False) W w' := fun W hk => file_walk nm W (hW.kept hk)
  have hS : ∀ W, Kept (fun _ => False) w W → Calls Tryz.prog 143 #[.int .u8 (o : Int)] W fun e w' => e = .returned (.bool (mayO o)) ∧ Kept (fun _ => False) W w' := fun W _ => may_k o ho W
  have hE : ∀ W, Kept (fun _ => False) w W → Calls Tryz.prog 109 #[.agg #[.int .i64 n, .string v, .string r], .bool true] W fun e w' => e = .returned (.bool (mayE (evrE n v r) true)) ∧ Kept (fun _ => False) W w' := fun W _ => mayK_walk n v r true W
  cases hx : nameD nm.data.toList with
  | false =>
    rw [hx] at hN
    rw [may_name hx]
    exact may6p_A nm o n v r w hN
  | true =>
    rw [hx] at hN
    cases hy : mayO o with
    | false =>
      rw [hy] at hS
      rw [may_op0 hy]
      exact may6p_B nm o n v r w hN hS
    | true =>
      rw [hy] at hS
      by_cases h0 : o = 0
      · subst h0
        rw [may_none hx]
        rcases noE_cases n v r with ⟨rfl, rfl, rfl, h⟩ | ⟨h, h1 | ⟨rfl, h1⟩ | ⟨rfl, rfl, h1⟩⟩
        · rw [h]; exact may6p_C0 nm w hN hS
        · rw [h]; exact may6p_C1 nm n v r w hN hS (by simpa using h1)
        · rw [h]; exact may6p_C2 nm v r w hN hS h1
        · rw [h]; exact may6p_C3 nm r w hN hS h1
      · rw [may_some hx hy h0]
        cases hz : fileD nm.data.toList with
        | true =>
          rw [hz] at hF
          exact may6p_D nm o n v r w (by simp; exact h0) hN hS hF
        | false =>
          rw [hz] at hF
          exact may6p_E nm o n v r w (by simp; exact h0) hN hS _ hF hE
end Go.Proofs.YtpdoeapjdifmbaaGreatDoor

namespace Go.Proofs.YtpdoeapjdifmbaaGreatDoor
open Go.Shelf
open Go.RowKit
end Go.Proofs.YtpdoeapjdifmbaaGreatDoor

namespace Go.Proofs.YtpdoeapjdifmbaaGreatDoor
open Go.RowKit

end Go.Proofs.YtpdoeapjdifmbaaGreatDoor

namespace Go.Proofs.YtpdoeapjdifmbaaGreatDoor
open Go.Shelf
open Go.RowKit Evr
/-- The library's table of tens, and its two errors, as its own text lays them. -/
structure LibW (w : World) : Prop where
  pow : Lib.TabIs Tryz.prog w "internal/strconv.uint64pow10" .u64 Lib.pow10Tab
  syn : ∃ tp p, w.var? Tryz.prog "strconv.ErrSyntax" = some #[.iface tp p]
  rng : ∃ tp p, w.var? Tryz.prog "strconv.ErrRange" = some #[.iface tp p]
theorem var_kept {w w' : World} {n : String} {cs : Array Value} (h : w.var? Tryz.prog n = some cs) (k : Kept (fun _ => False) w w') : w'.var? Tryz.prog n = some cs := by
  unfold World.var? at h ⊢
  cases hg : Tryz.prog.globalNamed n with
  | none => rw [hg] at h; cases h
  | some g =>
    rw [hg] at h
    simp only [Option.bind_some] at h ⊢
    have hlt : g < w.heap.size := by
      by_cases hl : g < w.heap.size
      · exact hl
      · rw [Array.getElem?_eq_none (by omega)] at h; cases h
    rw [k.block g hlt (fun h => h)]
    exact h
theorem LibW.kept {w w' : World} (h : LibW w) (k : Kept (fun _ => False) w w') : LibW w' := by
  obtain ⟨t1, p1, h1⟩ := h.syn
  obtain ⟨t2, p2, h2⟩ := h.rng
  exact ⟨var_kept h.pow k, ⟨t1, p1, var_kept h1 k⟩, ⟨t2, p2, var_kept h2 k⟩⟩
end Go.Proofs.YtpdoeapjdifmbaaGreatDoor

namespace Go.Proofs.YtpdoeapjdifmbaaGreatDoor
open Go.RowKit Ver Evr

end Go.Proofs.YtpdoeapjdifmbaaGreatDoor

namespace Go.Proofs.YtpdoeapjdifmbaaGreatDoor
open Go.RowKit Go.Shelf
def lays316_ren : Go.Shelf.Ren := ⟨fun | 316 => 83 | n => n, fun | 9 => 9 | 3 => 3 | 4 => 4 | 37 => 132 | 0 => 0 | 127 => 133 | 5 => 5 | n => n, fun | n => n⟩
theorem lays316 : Go.Proofs.LaysM.n316 Tryz.prog lays316_ren := {
  mixed := by kernel_rfl
  f316 := Tryz.func83.trans (congrArg some (by kernel_rfl))
  t0 := Tryz.underlying0
  a0 := Tryz.isAgg0
  z0 := Tryz.sizeOf0
  v0 := Tryz.zeroValue0
  t3 := Tryz.underlying3
  a3 := Tryz.isAgg3
  z3 := Tryz.sizeOf3
  v3 := Tryz.zeroValue3
  t4 := Tryz.underlying4
  a4 := Tryz.isAgg4
  z4 := Tryz.sizeOf4
  v4 := Tryz.zeroValue4
  t9 := Tryz.underlying9
  a9 := Tryz.isAgg9
  z9 := Tryz.sizeOf9
  v9 := Tryz.zeroValue9
  t37 := Tryz.underlying132
  a37 := Tryz.isAgg132
  z37 := Tryz.sizeOf132
  v37 := Tryz.zeroValue132
  t127 := Tryz.underlying133
  a127 := Tryz.isAgg133
  z127 := Tryz.sizeOf133
  v127 := Tryz.zeroValue133
  t5 := Tryz.underlying5
  a5 := Tryz.isAgg5
  z5 := Tryz.sizeOf5
  v5 := Tryz.zeroValue5
  i0 := by kernel_rfl
  i3 := by kernel_rfl
  i4 := by kernel_rfl
  i5 := by kernel_rfl
  i9 := by kernel_rfl
  i37 := by kernel_rfl
  i127 := by kernel_rfl }

theorem clone_walk (s : ByteArray) (w : World) (hs : s.size ≤ 140737488355327) :
    Calls Tryz.prog 51 #[.string s] w fun e w' => e = .returned (.string s) ∧ Kept (fun _ => False) w w' := by
  have hc : ∀ W, Calls Tryz.prog 83 #[.string s] W fun e w' => e = .returned (.string s) ∧ Kept (fun _ => False) W w' := fun W =>
    (Any.stringslite_Clone lays316 s W (by omega)).mono fun _ _ ⟨h1, h2⟩ => ⟨h1, Kept.of_below h2 (fun i hi hb => by omega)⟩
  go_enter Tryz.func51, Tryz.ntmps51
  go_wp2_with (go_at_call 83; refine (hc _).mono ?_; rintro e w' ⟨rfl, hk⟩)
  go_ret
  exact ⟨rfl, hk⟩
end Go.Proofs.YtpdoeapjdifmbaaGreatDoor

namespace Go.Proofs.YtpdoeapjdifmbaaGreatDoor
open Go.RowKit Ver Evr

end Go.Proofs.YtpdoeapjdifmbaaGreatDoor

namespace Go.Proofs.YtpdoeapjdifmbaaGreatDoor
open Go.RowKit Ver Evr

end Go.Proofs.YtpdoeapjdifmbaaGreatDoor

namespace Go.Proofs.YtpdoeapjdifmbaaGreatDoor
open Go.RowKit Ver Evr Span Dep

end Go.Proofs.YtpdoeapjdifmbaaGreatDoor

namespace Go.Proofs.YtpdoeapjdifmbaaGreatDoor
open Go.RowKit Ver Evr Span Dep

end Go.Proofs.YtpdoeapjdifmbaaGreatDoor

namespace Go.Proofs.YtpdoeapjdifmbaaGreatDoor
open Go.RowKit Ver Evr Span Dep Rich

end Go.Proofs.YtpdoeapjdifmbaaGreatDoor

namespace Go.Proofs.YtpdoeapjdifmbaaGreatDoor
open Go.RowKit Ver Evr Span Dep Rich

/-- What a function value answers to each of these. -/
def AnsF (g : Nat) (bs : Array Value) (f : De → Bool) (l : List De) (w : World) : Prop := ∀ e ∈ l, ∀ W, Kept (fun _ => False) w W → Calls Tryz.prog g (#[deV e] ++ bs) W fun x W' => x = .returned (.bool (f e)) ∧ Kept (fun _ => False) W W'
theorem AnsF.kept {g : Nat} {bs : Array Value} {f : De → Bool} {l : List De} {w w' : World} (h : AnsF g bs f l w) (hk : Kept (fun _ => False) w w') : AnsF g bs f l w' := fun e he W hW => h e he W (hk.trans hW (fun _ _ h => h))
set_option maxRecDepth 100000 in
set_option maxHeartbeats 4000000 in
theorem indexFunc_walk (g : Nat) (bs : Array Value) (eg : ∀ args w, (callFunc g args).run Tryz.prog w = .ok (.enter g args) w) (f : De → Bool) (l : List De) (va : Value) (w : World) (hl : l.length < 140737488355328) (hS : DesS w va l) (hF : AnsF g bs f l w) :
    Calls Tryz.prog 103 #[va, .func (.func g) #[] bs] w fun x w' => (∃ k : Int, x = .returned (.int .i64 k) ∧ decide (0 ≤ k) = l.any f) ∧ Kept (fun _ => False) w w' := by
  obtain ⟨ao, cp, rfl, hc⟩ := hS
  have HS := Lib.hid (show DesS w (.slice ao l.length cp) l from ⟨ao, cp, rfl, hc⟩)
  have HF := Lib.hid hF
  clear hc hF
  go_enter Tryz.func103, Tryz.ntmps103
  go_wp2_with fail
  go_loopw [8] (fun v8 wr => ∃ i : Nat, v8 = .int .i64 (i : Int) ∧ i ≤ l.length ∧ Hid ((l.take i).any f = false) ∧ Hid (Kept (fun _ => False) w wr)) (fun v8 _ => l.length - (intOf v8).toNat)
  case atStart => exact ⟨0, rfl, Nat.zero_le _, Lib.hid rfl, Lib.hid (Kept.refl _ _)⟩
  case round =>
    obtain ⟨i, rfl, hi, HN, HK⟩ := hrel
    rename World => wr
    by_cases hlt : i < l.length
    · obtain ⟨e, he⟩ : ∃ e, l[i]? = some e := ⟨_, List.getElem?_eq_getElem hlt⟩
      obtain ⟨_, b, off, rfl, hb, c0, c1, c2, c3, c4⟩ := (HS.out.kept HK.out).at he
      have hl' := HF.out e (List.mem_of_getElem? he) wr HK.out
      have HT := Lib.hid (any_get f l i e he HN.out)
      have HM := Lib.hid (List.mem_of_getElem? he)
      have hi0 : (0 : Int) ≤ (i : Int) := by omega
      have hiI : (i : Int) < (l.length : Int) := by omega
      obtain ⟨nm, o, n, v, r⟩ := e
      dsimp only at c0 c1 c2 c3 c4
      clear he hb HS HF
      cases hfe : f ⟨nm, o, n, v, r⟩ with
      | true =>
        rw [hfe] at hl'
        have HFE := Lib.hid hfe
        clear hfe
        go_wp2_with (first
          | (go_at_fn g; refine hl'.mono ?_; rintro x w2 ⟨rfl, hk2⟩)
          | fail)
        go_ret
        exact ⟨⟨(i : Int), rfl, by rw [List.any_eq_true.2 ⟨_, HM.out, HFE.out⟩]; simp⟩, HK.out.trans hk2 (fun _ _ h => h)⟩
      | false =>
        rw [hfe] at hl'
        have HFE := Lib.hid hfe
        clear hfe
        go_wp2_with (first
          | (go_at_fn g; refine hl'.mono ?_; rintro x w2 ⟨rfl, hk2⟩)
          | fail)
        go_roundw
        case rel => exact ⟨i + 1, by go_num, by omega, Lib.hid (HT.out.trans HFE.out), Lib.hid (HK.out.trans hk2 (fun _ _ h => h))⟩
        case measure => simp [intOf]; omega
    · obtain rfl : i = l.length := by omega
      clear hlt hi
      go_wp2_with fail
      go_ret
      exact ⟨⟨-1, rfl, by rw [← List.take_length (l := l), HN.out]; rfl⟩, HK.out⟩
set_option maxRecDepth 100000 in
set_option maxHeartbeats 4000000 in
theorem containsFunc_walk (g : Nat) (bs : Array Value) (eg : ∀ args w, (callFunc g args).run Tryz.prog w = .ok (.enter g args) w) (f : De → Bool) (l : List De) (va : Value) (w : World) (hl : l.length < 140737488355328) (hS : DesS w va l) (hF : AnsF g bs f l w) :
    Calls Tryz.prog 70 #[va, .func (.func g) #[] bs] w fun e w' => e = .returned (.bool (l.any f)) ∧ Kept (fun _ => False) w w' := by
  have IC := Lib.hid (indexFunc_walk g bs eg f l va w hl hS hF)
  clear hS hF eg
  go_enter Tryz.func70, Tryz.ntmps70
  go_wp2_with (first
    | (go_at_call 103; refine IC.out.mono ?_; rintro x w2 ⟨⟨k, rfl, hk⟩, hk2⟩; have HKE := Lib.hid hk; clear hk)
    | fail)
  go_ret
  exact ⟨by rw [← HKE.out]; rfl, hk2⟩
end Go.Proofs.YtpdoeapjdifmbaaGreatDoor
