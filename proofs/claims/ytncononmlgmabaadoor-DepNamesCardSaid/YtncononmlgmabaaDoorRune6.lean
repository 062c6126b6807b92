/-
  strings.IndexRune and strings.ContainsRune among the signs of a name, at any rune that a text may hold; which runes may stand in a name. Conditions: as each theorem states.
-/
import Derived.Test.YtncononmlgmabaaDoorLib6
import Derived.Test.YtncononmlgmabaaDoorMathDep
import Derived.Laws.Runes
import Derived.WalkMore
import Derived.Laws.RangeAny
import Derived.Lib.OthersKept
namespace Go.Proofs.YtncononmlgmabaaDoor
open Go.RowKit Ver Evr Dep

/-- The signs that may stand in a name. -/
abbrev signs9 : ByteArray := ⟨#[46, 95, 43, 45, 47, 58, 64, 126, 94]⟩
theorem signs_low : ∀ (pos : Nat) (h : pos < signs9.size), (signs9[pos]'h).toNat < 128 := by decide
theorem signs_all : ∀ b ∈ signs9.data.toList, b.toNat < 128 := by decide
theorem sign_none (a e : Nat) (c : UInt8) (hc : 128 ≤ c.toNat) : Lib.indexByte (signs9.extract a e).data.toList c = -1 := by
  rw [← Lib.firstIdx_eq]
  exact firstIdx_ascii signs9 a e c signs_all hc

set_option maxRecDepth 100000 in
set_option maxHeartbeats 2000000 in
theorem rune_low (b : UInt8) (hb : b.toNat < 128) (w : World) :
    Calls Tryd.prog 61 #[.string signs9, .int .i32 (b.toNat : Int)] w fun e w' => e = .returned (.int .i64 (Lib.indexByte signs9.data.toList b)) ∧ w' = w :=
  (sh_strings_IndexRune_ascii signs9 (b.toNat : Int) w (by omega) (by omega)).mono fun e w' ⟨h1, h2⟩ => ⟨by rw [h1]; simp, h2⟩

set_option maxRecDepth 100000 in
set_option maxHeartbeats 2000000 in
theorem rune_err (w : World) :
    Calls Tryd.prog 61 #[.string signs9, .int .i32 65533] w fun e w' => e = .returned (.int .i64 (-1)) ∧ Kept (fun _ => False) w w' := by
  go_enter Tryd.func61, Tryd.ntmps61
  go_wp2_with fail
  go_loopw [] (fun wr => ∃ pos : Nat, wr = w.iter signs9 pos ∧ pos ≤ 9) (fun wr => 9 - wr.iterPos w.heap.size)
  case atStart => exact ⟨0, rfl, by omega⟩
  case round =>
    obtain ⟨pos, rfl, hp⟩ := hrel
    by_cases h : pos < 9
    · have hnx : ∀ ty, (Instr.next (.pointer (some ⟨w.heap.size, 0, none⟩)) true ty).run Tryd.prog (w.iter signs9 pos) = _ := fun ty => run_next_ascii w signs9 pos ty h (signs_low pos h)
      have hlow := signs_low pos h
      generalize (signs9[pos]'h).toNat = R at hnx hlow
      have hne : ((R : Int) == 65533) = false := by simp; omega
      go_wp2_with fail
      go_roundw
      case rel => exact ⟨pos + 1, rfl, by omega⟩
      case measure => simp; omega
    · have hnx : ∀ ty, (Instr.next (.pointer (some ⟨w.heap.size, 0, none⟩)) true ty).run Tryd.prog (w.iter signs9 pos) = _ := fun ty => run_next_end w signs9 pos ty (by show ¬ pos < 9; exact h)
      go_wp2_with fail
      go_ret
      exact ⟨rfl, (Kept.refl _ _).alloc _⟩
set_option maxRecDepth 100000 in
set_option maxHeartbeats 2000000 in
theorem rune_bad (r : Int) (h0 : 128 ≤ r) (he : r ≠ 65533) (hv : Lib.validRune r = false) (w : World) :
    Calls Tryd.prog 61 #[.string signs9, .int .i32 r] w fun e w' => e = .returned (.int .i64 (-1)) ∧ Kept (fun _ => False) w w' := by
  have hV : ∀ W, Calls Tryd.prog 72 #[.int .i32 r] W fun e w' => e = .returned (.bool false) ∧ w' = W := fun W => by
    have := sh_utf8_ValidRune r W
    rw [hv] at this
    exact this
  have g1 : decide (r < 128) = false := by simp; omega
  have g2 : (r == 65533) = false := by simp; exact he
  have g3 : decide (0 ≤ r) = true := by simp; omega
  clear hv he
  go_enter Tryd.func61, Tryd.ntmps61
  go_wp2_with (go_at_call 72; with_reducible refine (hV _).mono ?_; rintro e w1 ⟨rfl, rfl⟩)
  go_ret
  exact ⟨rfl, Kept.refl _ _⟩
set_option maxRecDepth 100000 in
set_option maxHeartbeats 2000000 in
theorem rune_high (r : Int) (h0 : 128 ≤ r) (he : r ≠ 65533) (hv : Lib.validRune r = true) (w : World) :
    Calls Tryd.prog 61 #[.string signs9, .int .i32 r] w fun e w' => e = .returned (.int .i64 (-1)) ∧ Kept (fun _ => False) w w' := by
  have hV : ∀ W, Calls Tryd.prog 72 #[.int .i32 r] W fun e w' => e = .returned (.bool true) ∧ w' = W := fun W => by
    have := sh_utf8_ValidRune r W
    rw [hv] at this
    exact this
  obtain ⟨hs2, hs4, hlast⟩ := encode_facts r (by rw [validRune_eq]; exact hv) h0
  have hconv : ∀ W, (convert 21 9 (.int .i32 r)).run Tryd.prog W = .ok (.string (Utf8.encode r)) W := fun W => run_convert_int_string W _ _ _ _ (by kernel_rfl) Tryd.underlying9
  generalize Utf8.encode r = E at hconv hs2 hs4 hlast
  have g1 : decide (r < 128) = false := by simp; omega
  have g2 : (r == 65533) = false := by simp; exact he
  have g3 : decide (0 ≤ r) = true := by simp; omega
  have hI : ∀ (a e : Nat) (c : UInt8) (_ : 128 ≤ c.toNat) (W : World), Calls Tryd.prog 65 #[.string (signs9.extract a e), .int .u8 (c.toNat : Int)] W fun e w' => e = .returned (.int .i64 (-1)) ∧ w' = W := fun a e c hc W =>
    (sh_strings_IndexByte (signs9.extract a e) (c.toNat : Int) W).mono fun e' w' ⟨h1, h2⟩ => ⟨by rw [h1]; simp only [Int.toNat_natCast, Nat.toUInt8_eq, UInt8.ofNat_toNat]; rw [sign_none a e c hc], h2⟩
  clear hv he
  obtain ⟨c, hc⟩ : ∃ c, c = E[E.size - 1]'(by omega) := ⟨_, rfl⟩
  have hcl : 128 ≤ c.toNat := by rw [hc]; exact hlast _
  have hI2 := fun a e W => hI a e c hcl W
  have HI := Lib.hid hI2
  have hsz : E.size = 2 ∨ E.size = 3 ∨ E.size = 4 := by omega
  clear hlast hI hI2
  have hn1 : (((signs9[1]'(by decide)).toNat : Int) != (c.toNat : Int)) = true := by
    rw [show (signs9[1]'(by decide)) = 95 from rfl]
    simp
    omega
  have hn2 : (((signs9[2]'(by decide)).toNat : Int) != (c.toNat : Int)) = true := by
    rw [show (signs9[2]'(by decide)) = 43 from rfl]
    simp
    omega
  have hn3 : (((signs9[3]'(by decide)).toNat : Int) != (c.toNat : Int)) = true := by
    rw [show (signs9[3]'(by decide)) = 45 from rfl]
    simp
    omega
  have hS2 : ∀ W, (Instr.slice 9 (.string signs9) (some (.int .i64 2)) none none).run Tryd.prog W = .ok (.string (signs9.extract 2 9)) W := fun W => by kernel_rfl
  have hS3 : ∀ W, (Instr.slice 9 (.string signs9) (some (.int .i64 3)) none none).run Tryd.prog W = .ok (.string (signs9.extract 3 9)) W := fun W => by kernel_rfl
  have hS4 : ∀ W, (Instr.slice 9 (.string signs9) (some (.int .i64 4)) none none).run Tryd.prog W = .ok (.string (signs9.extract 4 9)) W := fun W => by kernel_rfl
  have hw2 : IntKind.i64.wrap 2 = 2 := by kernel_rfl
  have hw3 : IntKind.i64.wrap 3 = 3 := by kernel_rfl
  have hw4 : IntKind.i64.wrap 4 = 4 := by kernel_rfl
  rcases hsz with h2 | h2 | h2
  · have hc' : E[1]'(by omega) = c := by rw [hc]; simp [h2]
    clear hc
    go_enter Tryd.func61, Tryd.ntmps61
    go_wp2_with (first | (go_at_call 72; with_reducible refine (hV _).mono ?_; rintro e w1 ⟨rfl, rfl⟩) | fail)
    go_step3
    go_wp2_with fail
    refine wp_loop_rounds 1 ?_
    rw [rounds_succ]
    go_wp2_with fail
    go_step3
    go_wp2_with fail
    go_quiet (fail)
    have hk := (Kept.refl (fun _ => False) w1).drewN nq
    generalize w1.drewN nq = w2 at hk ⊢
    go_wp2_with fail
    go_quiet ((go_at_call 65; exact Calls.quiet_of_same (HI.out _ _ _)))
    go_wp2_with fail
    simp only [Exit.inBlock, Exit.then, Exit.noGoto_ret]
    go_ret
    exact ⟨rfl, hk.drewN _⟩
  · have hc' : E[2]'(by omega) = c := by rw [hc]; simp [h2]
    clear hc
    go_enter Tryd.func61, Tryd.ntmps61
    go_wp2_with (first | (go_at_call 72; with_reducible refine (hV _).mono ?_; rintro e w1 ⟨rfl, rfl⟩) | fail)
    go_step3
    go_wp2_with fail
    refine wp_loop_rounds 1 ?_
    rw [rounds_succ]
    go_wp2_with fail
    go_step3
    go_wp2_with fail
    go_quiet (fail)
    have hk := (Kept.refl (fun _ => False) w1).drewN nq
    generalize w1.drewN nq = w2 at hk ⊢
    go_wp2_with fail
    go_quiet ((go_at_call 65; exact Calls.quiet_of_same (HI.out _ _ _)))
    go_wp2_with fail
    simp only [Exit.inBlock, Exit.then, Exit.noGoto_ret]
    go_ret
    exact ⟨rfl, hk.drewN _⟩
  · have hc' : E[3]'(by omega) = c := by rw [hc]; simp [h2]
    clear hc
    go_enter Tryd.func61, Tryd.ntmps61
    go_wp2_with (first | (go_at_call 72; with_reducible refine (hV _).mono ?_; rintro e w1 ⟨rfl, rfl⟩) | fail)
    go_step3
    go_wp2_with fail
    refine wp_loop_rounds 1 ?_
    rw [rounds_succ]
    go_wp2_with fail
    go_step3
    go_wp2_with fail
    go_quiet (fail)
    have hk := (Kept.refl (fun _ => False) w1).drewN nq
    generalize w1.drewN nq = w2 at hk ⊢
    go_wp2_with fail
    go_quiet ((go_at_call 65; exact Calls.quiet_of_same (HI.out _ _ _)))
    go_wp2_with fail
    simp only [Exit.inBlock, Exit.then, Exit.noGoto_ret]
    go_ret
    exact ⟨rfl, hk.drewN _⟩

/-- Whether a rune may stand in a name. -/
theorem index_sign9 : ∀ b : UInt8, decide (0 ≤ Lib.indexByte signs9.data.toList b) = (decide (b.toNat = 46) || decide (b.toNat = 95) || decide (b.toNat = 43) || decide (b.toNat = 45) || decide (b.toNat = 47) || decide (b.toNat = 58) || decide (b.toNat = 64) || decide (b.toNat = 126) || decide (b.toNat = 94)) := by
  intro b
  have key : ((List.range 256).all fun n => decide (0 ≤ Lib.indexByte signs9.data.toList (UInt8.ofNat n)) == (decide (n = 46) || decide (n = 95) || decide (n = 43) || decide (n = 45) || decide (n = 47) || decide (n = 58) || decide (n = 64) || decide (n = 126) || decide (n = 94))) = true := by kernel_rfl
  have h := List.all_eq_true.1 key b.toNat (List.mem_range.2 (UInt8.toNat_lt b))
  have hb : UInt8.ofNat b.toNat = b := by simp
  rw [hb] at h
  simpa using h
theorem contains_low (b : UInt8) (hb : b.toNat < 128) (w : World) :
    Calls Tryd.prog 47 #[.string signs9, .int .i32 (b.toNat : Int)] w fun e w' => e = .returned (.bool (decide (0 ≤ Lib.indexByte signs9.data.toList b))) ∧ w' = w := by
  have hR := fun W => rune_low b hb W
  generalize Lib.indexByte signs9.data.toList b = ix at *
  go_enter Tryd.func47, Tryd.ntmps47
  go_wp2_with (go_at_call 61; with_reducible refine (hR _).mono ?_; rintro e w1 ⟨rfl, rfl⟩)
  go_ret
  exact ⟨rfl, rfl⟩
theorem contains_high (r : Int) (h0 : 128 ≤ r) (w : World) :
    Calls Tryd.prog 47 #[.string signs9, .int .i32 r] w fun e w' => e = .returned (.bool false) ∧ Kept (fun _ => False) w w' := by
  have hR : ∀ W, Calls Tryd.prog 61 #[.string signs9, .int .i32 r] W fun e w' => e = .returned (.int .i64 (-1)) ∧ Kept (fun _ => False) W w' := fun W => by
    by_cases he : r = 65533
    · subst he; exact rune_err W
    · cases hv : Lib.validRune r with
      | true => exact rune_high r h0 he hv W
      | false => exact rune_bad r h0 he hv W
  clear h0
  go_enter Tryd.func47, Tryd.ntmps47
  go_wp2_with (go_at_call 61; with_reducible refine (hR _).mono ?_; rintro e w1 ⟨rfl, hk⟩)
  go_ret
  exact ⟨rfl, hk⟩
set_option maxRecDepth 100000 in
theorem mayRune_low (b : UInt8) (hb : b.toNat < 128) (w : World) :
    Calls Tryd.prog 30 #[.int .i32 (b.toNat : Int)] w fun e w' => e = .returned (.bool (signD b)) ∧ w' = w := by
  by_cases c3 : (97 ≤ b.toNat ∧ b.toNat ≤ 122) ∨ (65 ≤ b.toNat ∧ b.toNat ≤ 90) ∨ (48 ≤ b.toNat ∧ b.toNat ≤ 57)
  · have fin := Lib.hid (show signD b = true by unfold signD okB; simp; omega)
    rcases c3 with ⟨a1, a2⟩ | ⟨a1, a2⟩ | ⟨a1, a2⟩
    all_goals
      go_enter Tryd.func30, Tryd.ntmps30
      go_wp2_with fail
      go_ret
      exact ⟨by rw [fin.out]; rfl, rfl⟩
  · have hI := fun W => contains_low b hb W
    have h1 := index_sign9 b
    have fin := Lib.hid (show signD b = decide (0 ≤ Lib.indexByte signs9.data.toList b) by
      rw [h1, Bool.eq_iff_iff]
      unfold signD okB
      simp
      omega)
    have hc : b.toNat < 48 ∨ (57 < b.toNat ∧ b.toNat < 65) ∨ (90 < b.toNat ∧ b.toNat < 97) ∨ 122 < b.toNat := by omega
    generalize Lib.indexByte signs9.data.toList b = ix at *
    clear h1 c3 hb
    rcases hc with hc | ⟨hc, hd⟩ | ⟨hc, hd⟩ | hc
    all_goals
      go_enter Tryd.func30, Tryd.ntmps30
      go_wp2_with (go_at_call 47; with_reducible refine (hI _).mono ?_; rintro e w1 ⟨rfl, rfl⟩)
      go_ret
      exact ⟨by rw [fin.out]; rfl, rfl⟩
set_option maxRecDepth 100000 in
theorem mayRune_high (r : Int) (h0 : 128 ≤ r) (w : World) :
    Calls Tryd.prog 30 #[.int .i32 r] w fun e w' => e = .returned (.bool false) ∧ Kept (fun _ => False) w w' := by
  have hI := fun W => contains_high r h0 W
  go_enter Tryd.func30, Tryd.ntmps30
  go_wp2_with (go_at_call 47; with_reducible refine (hI _).mono ?_; rintro e w1 ⟨rfl, hk⟩)
  go_ret
  exact ⟨rfl, hk⟩
end Go.Proofs.YtncononmlgmabaaDoor
