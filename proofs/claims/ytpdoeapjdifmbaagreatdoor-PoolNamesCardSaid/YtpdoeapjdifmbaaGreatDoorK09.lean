/-
  Plain facts on EVRs and their texts as the program reads them: the digits, a cut, a number, what stands where. Nothing of the program is named here. strings.IndexByte among the signs of a version, and strings.Cut around one byte, whatever the library's variables hold. Contracts of the library that the program's dep asks, out of the shelf: ValidRune, HasPrefix, IndexRune. Nothing of the program is named here. strings.IndexRune and strings.ContainsRune among the signs of a name, at any rune that a text may hold; which runes may stand in a name. The walks over the program's own text of layer 6: which names may be, and which are a file's. Conditions: the array of words that are no names lies as the program's text lays it. The walks over the document's answer for layer 6: which names may be. The walks over the document's answers for layer 4: which Ops may be, an Op's text. Conditions: as each theorem states.
-/
import Derived.Test.YtpdoeapjdifmbaaGreatDoorK01
import Derived.Lib.ItoaNum
import Derived.Lib.IndexMore
import Derived.Lib.Bytealg
import Derived.Lib.AtoiAll
import Derived.Lib.AtoiAllCases
import Derived.Test.YtpdoeapjdifmbaaGreatDoorK08
import Derived.Test.YtpdoeapjdifmbaaGreatDoorRows
import Derived.Shelf.Small.Strs
import Derived.Shelf.Strings.Search2
import Derived.WalkKit
import Derived.Shelf.Strings.Search3
import Derived.Shelf.Strings.Prefix
import Derived.Shelf.Strings.Runes
import Derived.Shelf.Small.Utf8
import Derived.Lib.IndexBytes
import Derived.Laws.Runes
import Derived.WalkMore
import Derived.Laws.RangeAny
import Derived.Lib.OthersKept
import Derived.Handy
import Derived.Lib.Hide
import Derived.LoopN
namespace Go.Proofs.YtpdoeapjdifmbaaGreatDoor
namespace Evr
open Ver

/-- A byte that is no letter and no digit, among the signs. -/
theorem sign_index (b : UInt8) : decide (0 ≤ Lib.indexByte [46, 95, 43, 126, 94] b) = (decide (b.toNat = 46) || decide (b.toNat = 95) || decide (b.toNat = 43) || decide (b.toNat = 126) || decide (b.toNat = 94)) := by
  have key : ((List.range 256).all fun n => decide (0 ≤ Lib.indexByte [46, 95, 43, 126, 94] (UInt8.ofNat n)) == (decide (n = 46) || decide (n = 95) || decide (n = 43) || decide (n = 126) || decide (n = 94))) = true := by kernel_rfl
  have h := List.all_eq_true.1 key b.toNat (List.mem_range.2 (UInt8.toNat_lt b))
  have hb : UInt8.ofNat b.toNat = b := by simp
  rw [hb] at h
  simpa using h
end Evr
end Go.Proofs.YtpdoeapjdifmbaaGreatDoor

namespace Go.Proofs.YtpdoeapjdifmbaaGreatDoor
open Go.Shelf
def sh_lays137_ren : Go.Shelf.Ren := ⟨fun | 137 => 199 | 217 => 219 | 266 => 229 | n => n, fun | 9 => 9 | 5 => 5 | 3 => 3 | n => n, fun | n => n⟩
theorem sh_lays137 : Go.Proofs.Lays.n137 Tryz.prog sh_lays137_ren := {
  mixed := by kernel_rfl
  f137 := Tryz.func199.trans (congrArg some (by kernel_rfl))
  f217 := Tryz.func219.trans (congrArg some (by kernel_rfl))
  f266 := Tryz.func229.trans (congrArg some (by kernel_rfl))
  t3 := Tryz.underlying3
  a3 := Tryz.isAgg3
  z3 := Tryz.sizeOf3
  v3 := Tryz.zeroValue3
  t5 := Tryz.underlying5
  a5 := Tryz.isAgg5
  z5 := Tryz.sizeOf5
  v5 := Tryz.zeroValue5
  t9 := Tryz.underlying9
  a9 := Tryz.isAgg9
  z9 := Tryz.sizeOf9
  v9 := Tryz.zeroValue9 }
open Go.RowKit in
theorem sh_strings_IndexByte (s : ByteArray) (c : Int) (w : World) :
    Calls Tryz.prog 199 #[.string s, .int .u8 c] w fun e w' => e = .returned (.int .i64 (Lib.indexByte s.data.toList c.toNat.toUInt8)) ∧ w' = w := Any.strings_IndexByte sh_lays137 s c w
open Go.RowKit Ver Evr
theorem index_sign (b : UInt8) (w : World) :
    Calls Tryz.prog 199 #[.string ⟨#[46, 95, 43, 126, 94]⟩, .int .u8 (b.toNat : Int)] w fun e w' => e = .returned (.int .i64 (Lib.indexByte [46, 95, 43, 126, 94] b)) ∧ w' = w :=
  (sh_strings_IndexByte ⟨#[46, 95, 43, 126, 94]⟩ (b.toNat : Int) w).mono fun e w' ⟨h1, h2⟩ => ⟨by rw [h1]; simp, h2⟩
end Go.Proofs.YtpdoeapjdifmbaaGreatDoor

namespace Go.Proofs.YtpdoeapjdifmbaaGreatDoor
open Go.Shelf
def sh_lays119_ren : Go.Shelf.Ren := ⟨fun | 119 => 216 | n => n, fun | 21 => 21 | 4 => 4 | n => n, fun | n => n⟩
theorem sh_lays119 : Go.Proofs.Lays.n119 Tryz.prog sh_lays119_ren := {
  mixed := by kernel_rfl
  f119 := Tryz.func216.trans (congrArg some (by kernel_rfl))
  t4 := Tryz.underlying4
  a4 := Tryz.isAgg4
  z4 := Tryz.sizeOf4
  v4 := Tryz.zeroValue4
  t21 := Tryz.underlying21
  a21 := Tryz.isAgg21
  z21 := Tryz.sizeOf21
  v21 := Tryz.zeroValue21 }
theorem sh_utf8_ValidRune (r : Int) (w : World) :
    Calls Tryz.prog 216 #[.int .i32 r] w fun e w' => e = .returned (.bool (Lib.validRune r)) ∧ w' = w := Any.utf8_ValidRune sh_lays119 r w
def sh_lays99_ren : Go.Shelf.Ren := ⟨fun | 99 => 139 | 206 => 178 | n => n, fun | 9 => 9 | 4 => 4 | 3 => 3 | n => n, fun | n => n⟩
theorem sh_lays99 : Go.Proofs.Lays.n99 Tryz.prog sh_lays99_ren := {
  mixed := by kernel_rfl
  f99 := Tryz.func139.trans (congrArg some (by kernel_rfl))
  f206 := Tryz.func178.trans (congrArg some (by kernel_rfl))
  t3 := Tryz.underlying3
  a3 := Tryz.isAgg3
  z3 := Tryz.sizeOf3
  v3 := Tryz.zeroValue3
  t4 := Tryz.underlying4
  a4 := Tryz.isAgg4
  z4 := Tryz.sizeOf4
  v4 := Tryz.zeroValue4
  t9 := Tryz.underlying9
  a9 := Tryz.isAgg9
  z9 := Tryz.sizeOf9
  v9 := Tryz.zeroValue9 }
open Go.RowKit Go.Lib in
theorem sh_strings_HasPrefix (s p : ByteArray) (w : World) :
    Calls Tryz.prog 139 #[.string s, .string p] w fun e w' => e = .returned (.bool (Lib.hasPrefix s.data.toList p.data.toList)) ∧ w' = w := Any.strings_HasPrefix sh_lays99 s p w
def sh_lays152_ren : Go.Shelf.Ren := ⟨fun | 152 => 198 | 137 => 199 | 119 => 216 | 224 => 217 | 225 => 218 | 217 => 219 | 266 => 229 | n => n, fun | 9 => 9 | 21 => 21 | 3 => 3 | 4 => 4 | 5 => 5 | 0 => 0 | 46 => 113 | n => n, fun | n => n⟩
theorem sh_lays152 : Go.Proofs.Lays.n152 Tryz.prog sh_lays152_ren := {
  mixed := by kernel_rfl
  f119 := Tryz.func216.trans (congrArg some (by kernel_rfl))
  f137 := Tryz.func199.trans (congrArg some (by kernel_rfl))
  f152 := Tryz.func198.trans (congrArg some (by kernel_rfl))
  f217 := Tryz.func219.trans (congrArg some (by kernel_rfl))
  f224 := Tryz.func217.trans (congrArg some (by kernel_rfl))
  f225 := Tryz.func218.trans (congrArg some (by kernel_rfl))
  f266 := Tryz.func229.trans (congrArg some (by kernel_rfl))
  t0 := Tryz.underlying0
  a0 := Tryz.isAgg0
  z0 := Tryz.sizeOf0
  v0 := Tryz.zeroValue0
  t3 := Tryz.underlying3
  a3 := Tryz.isAgg3
  z3 := Tryz.sizeOf3
  v3 := Tryz.zeroValue3
  t4 := Tryz.underlying4
  a4 := Tryz.isAgg4
  z4 := Tryz.sizeOf4
  v4 := Tryz.zeroValue4
  t5 := Tryz.underlying5
  a5 := Tryz.isAgg5
  z5 := Tryz.sizeOf5
  v5 := Tryz.zeroValue5
  t9 := Tryz.underlying9
  a9 := Tryz.isAgg9
  z9 := Tryz.sizeOf9
  v9 := Tryz.zeroValue9
  t21 := Tryz.underlying21
  a21 := Tryz.isAgg21
  z21 := Tryz.sizeOf21
  v21 := Tryz.zeroValue21
  t46 := Tryz.underlying113
  a46 := Tryz.isAgg113
  z46 := Tryz.sizeOf113
  v46 := Tryz.zeroValue113 }
open Go.RowKit Go.Lib in
theorem sh_strings_IndexRune_ascii (s : ByteArray) (r : Int) (w : World) (h0 : 0 ≤ r) (h1 : r < 128) :
    Calls Tryz.prog 198 #[.string s, .int .i32 r] w fun e w' => e = .returned (.int .i64 (Lib.indexByte s.data.toList r.toNat.toUInt8)) ∧ w' = w := Any.strings_IndexRune_ascii sh_lays152 s r w h0 h1
open Go.RowKit Go.Lib
end Go.Proofs.YtpdoeapjdifmbaaGreatDoor

namespace Go.Proofs.YtpdoeapjdifmbaaGreatDoor
open Go.RowKit Ver Evr Dep

/-- The signs that may stand in a name. -/
abbrev signs9 : ByteArray := ⟨#[46, 95, 43, 45, 47, 58, 64, 126, 94]⟩
theorem signs_low : ∀ (pos : Nat) (h : pos < signs9.size), (signs9[pos]'h).toNat < 128 := by decide
theorem signs_all : ∀ b ∈ signs9.data.toList, b.toNat < 128 := by decide
theorem sign_none (a e : Nat) (c : UInt8) (hc : 128 ≤ c.toNat) : Lib.indexByte (signs9.extract a e).data.toList c = -1 := by
  rw [← Lib.firstIdx_eq]
  exact firstIdx_ascii signs9 a e c signs_all hc

set_option maxRecDepth 100000 in
set_option maxHeartbeats 2000000 in
theorem rune_low (b : UInt8) (hb : b.toNat < 128) (w : World) :
    Calls Tryz.prog 198 #[.string signs9, .int .i32 (b.toNat : Int)] w fun e w' => e = .returned (.int .i64 (Lib.indexByte signs9.data.toList b)) ∧ w' = w :=
  (sh_strings_IndexRune_ascii signs9 (b.toNat : Int) w (by omega) (by omega)).mono fun e w' ⟨h1, h2⟩ => ⟨by rw [h1]; simp, h2⟩

set_option maxRecDepth 100000 in
set_option maxHeartbeats 2000000 in
theorem rune_err (w : World) :
    Calls Tryz.prog 198 #[.string signs9, .int .i32 65533] w fun e w' => e = .returned (.int .i64 (-1)) ∧ Kept (fun _ => False) w w' := by
  go_enter Tryz.func198, Tryz.ntmps198
  go_wp2_with fail
  go_loopw [] (fun wr => ∃ pos : Nat, wr = w.iter signs9 pos ∧ pos ≤ 9) (fun wr => 9 - wr.iterPos w.heap.size)
  case atStart => exact ⟨0, rfl, by omega⟩
  case round =>
    obtain ⟨pos, rfl, hp⟩ := hrel
    by_cases h : pos < 9
    · have hnx : ∀ ty, (Instr.next (.pointer (some ⟨w.heap.size, 0, none⟩)) true ty).run Tryz.prog (w.iter signs9 pos) = _ := fun ty => run_next_ascii w signs9 pos ty h (signs_low pos h)
      have hlow := signs_low pos h
      generalize (signs9[pos]'h).toNat = R at hnx hlow
      have hne : ((R : Int) == 65533) = false := by simp; omega
      go_wp2_with fail
      go_roundw
      case rel => exact ⟨pos + 1, rfl, by omega⟩
      case measure => simp; omega
    · have hnx : ∀ ty, (Instr.next (.pointer (some ⟨w.heap.size, 0, none⟩)) true ty).run Tryz.prog (w.iter signs9 pos) = _ := fun ty => run_next_end w signs9 pos ty (by show ¬ pos < 9; exact h)
      go_wp2_with fail
      go_ret
      exact ⟨rfl, (Kept.refl _ _).alloc _⟩
set_option maxRecDepth 100000 in
set_option maxHeartbeats 2000000 in
theorem rune_bad (r : Int) (h0 : 128 ≤ r) (he : r ≠ 65533) (hv : Lib.validRune r = false) (w : World) :
    Calls Tryz.prog 198 #[.string signs9, .int .i32 r] w fun e w' => e = .returned (.int .i64 (-1)) ∧ Kept (fun _ => False) w w' := by
  have hV : ∀ W, Calls Tryz.prog 216 #[.int .i32 r] W fun e w' => e = .returned (.bool false) ∧ w' = W := fun W => by
    have := sh_utf8_ValidRune r W
    rw [hv] at this
    exact this
  have g1 : decide (r < 128) = false := by simp; omega
  have g2 : (r == 65533) = false := by simp; exact he
  have g3 : decide (0 ≤ r) = true := by simp; omega
  clear hv he
  go_enter Tryz.func198, Tryz.ntmps198
  go_wp2_with (go_at_call 216; with_reducible refine (hV _).mono ?_; rintro e w1 ⟨rfl, rfl⟩)
  go_ret
  exact ⟨rfl, Kept.refl _ _⟩
set_option maxRecDepth 100000 in
set_option maxHeartbeats 2000000 in
theorem rune_high (r : Int) (h0 : 128 ≤ r) (he : r ≠ 65533) (hv : Lib.validRune r = true) (w : World) :
    Calls Tryz.prog 198 #[.string signs9, .int .i32 r] w fun e w' => e = .returned (.int .i64 (-1)) ∧ Kept (fun _ => False) w w' := by
  have hV : ∀ W, Calls Tryz.prog 216 #[.int .i32 r] W fun e w' => e = .returned (.bool true) ∧ w' = W := fun W => by
    have := sh_utf8_ValidRune r W
    rw [hv] at this
    exact this
  obtain ⟨hs2, hs4, hlast⟩ := encode_facts r (by rw [validRune_eq]; exact hv) h0
  have hconv : ∀ W, (convert 21 9 (.int .i32 r)).run Tryz.prog W = .ok (.string (Utf8.encode r)) W := fun W => run_convert_int_string W _ _ _ _ (by kernel_rfl) Tryz.underlying9
  generalize Utf8.encode r = E at hconv hs2 hs4 hlast
  have g1 : decide (r < 128) = false := by simp; omega
  have g2 : (r == 65533) = false := by simp; exact he
  have g3 : decide (0 ≤ r) = true := by simp; omega
  have hI : ∀ (a e : Nat) (c : UInt8) (_ : 128 ≤ c.toNat) (W : World), Calls Tryz.prog 199 #[.string (signs9.extract a e), .int .u8 (c.toNat : Int)] W fun e w' => e = .returned (.int .i64 (-1)) ∧ w' = W := fun a e c hc W =>
    (sh_strings_IndexByte (signs9.extract a e) (c.toNat : Int) W).mono fun e' w' ⟨h1, h2⟩ => ⟨by rw [h1]; simp only [Int.toNat_natCast, Nat.toUInt8_eq, UInt8.ofNat_toNat]; rw [sign_none a e c hc], h2⟩
  clear hv he
  obtain ⟨c, hc⟩ : ∃ c, c = E[E.size - 1]'(by omega) := ⟨_, rfl⟩
  have hcl : 128 ≤ c.toNat := by rw [hc]; exact hlast _
  have hI2 := fun a e W => hI a e c hcl W
  have HI := Lib.hid hI2
  have hsz : E.size = 2 ∨ E.size = 3 ∨ E.size = 4 := by omega
  clear hlast hI hI2
  have hn1 : (((signs9[1]'(by decide)).toNat : Int) != (c.toNat : Int)) = true := by
    rw [show (signs9[1]'(by decide)) = 95 from rfl]
    simp
    omega
  have hn2 : (((signs9[2]'(by decide)).toNat : Int) != (c.toNat : Int)) = true := by
    rw [show (signs9[2]'(by decide)) = 43 from rfl]
    simp
    omega
  have hn3 : (((signs9[3]'(by decide)).toNat : Int) != (c.toNat : Int)) = true := by
    rw [show (signs9[3]'(by decide)) = 45 from rfl]
    simp
    omega
  have hS2 : ∀ W, (Instr.slice 9 (.string signs9) (some (.int .i64 2)) none none).run Tryz.prog W = .ok (.string (signs9.extract 2 9)) W := fun W => by kernel_rfl
  have hS3 : ∀ W, (Instr.slice 9 (.string signs9) (some (.int .i64 3)) none none).run Tryz.prog W = .ok (.string (signs9.extract 3 9)) W := fun W => by kernel_rfl
  have hS4 : ∀ W, (Instr.slice 9 (.string signs9) (some (.int .i64 4)) none none).run Tryz.prog W = .ok (.string (signs9.extract 4 9)) W := fun W => by kernel_rfl
  have hw2 : IntKind.i64.wrap 2 = 2 := by kernel_rfl
  have hw3 : IntKind.i64.wrap 3 = 3 := by kernel_rfl
  have hw4 : IntKind.i64.wrap 4 = 4 := by kernel_rfl
  rcases hsz with h2 | h2 | h2
  · have hc' : E[1]'(by omega) = c := by rw [hc]; simp [h2]
    clear hc
    go_enter Tryz.func198, Tryz.ntmps198
    go_wp2_with (first | (go_at_call 216; with_reducible refine (hV _).mono ?_; rintro e w1 ⟨rfl, rfl⟩) | fail)
    go_step3
    go_wp2_with fail
    refine wp_loop_rounds 1 ?_
    rw [rounds_succ]
    go_wp2_with fail
    go_step3
    go_wp2_with fail
    go_quiet (fail)
    have hk := (Kept.refl (fun _ => False) w1).drewN nq
    generalize w1.drewN nq = w2 at hk ⊢
    go_wp2_with fail
    go_quiet ((go_at_call 199; exact Calls.quiet_of_same (HI.out _ _ _)))
    go_wp2_with fail
    simp only [Exit.inBlock, Exit.then, Exit.noGoto_ret]
    go_ret
    exact ⟨rfl, hk.drewN _⟩
  · have hc' : E[2]'(by omega) = c := by rw [hc]; simp [h2]
    clear hc
    go_enter Tryz.func198, Tryz.ntmps198
    go_wp2_with (first | (go_at_call 216; with_reducible refine (hV _).mono ?_; rintro e w1 ⟨rfl, rfl⟩) | fail)
    go_step3
    go_wp2_with fail
    refine wp_loop_rounds 1 ?_
    rw [rounds_succ]
    go_wp2_with fail
    go_step3
    go_wp2_with fail
    go_quiet (fail)
    have hk := (Kept.refl (fun _ => False) w1).drewN nq
    generalize w1.drewN nq = w2 at hk ⊢
    go_wp2_with fail
    go_quiet ((go_at_call 199; exact Calls.quiet_of_same (HI.out _ _ _)))
    go_wp2_with fail
    simp only [Exit.inBlock, Exit.then, Exit.noGoto_ret]
    go_ret
    exact ⟨rfl, hk.drewN _⟩
  · have hc' : E[3]'(by omega) = c := by rw [hc]; simp [h2]
    clear hc
    go_enter Tryz.func198, Tryz.ntmps198
    go_wp2_with (first | (go_at_call 216; with_reducible refine (hV _).mono ?_; rintro e w1 ⟨rfl, rfl⟩) | fail)
    go_step3
    go_wp2_with fail
    refine wp_loop_rounds 1 ?_
    rw [rounds_succ]
    go_wp2_with fail
    go_step3
    go_wp2_with fail
    go_quiet (fail)
    have hk := (Kept.refl (fun _ => False) w1).drewN nq
    generalize w1.drewN nq = w2 at hk ⊢
    go_wp2_with fail
    go_quiet ((go_at_call 199; exact Calls.quiet_of_same (HI.out _ _ _)))
    go_wp2_with fail
    simp only [Exit.inBlock, Exit.then, Exit.noGoto_ret]
    go_ret
    exact ⟨rfl, hk.drewN _⟩

/-- Whether a rune may stand in a name. -/
theorem index_sign9 : ∀ b : UInt8, decide (0 ≤ Lib.indexByte signs9.data.toList b) = (decide (b.toNat = 46) || decide (b.toNat = 95) || decide (b.toNat = 43) || decide (b.toNat = 45) || decide (b.toNat = 47) || decide (b.toNat = 58) || decide (b.toNat = 64) || decide (b.toNat = 126) || decide (b.toNat = 94)) := by
  intro b
  have key : ((List.range 256).all fun n => decide (0 ≤ Lib.indexByte signs9.data.toList (UInt8.ofNat n)) == (decide (n = 46) || decide (n = 95) || decide (n = 43) || decide (n = 45) || decide (n = 47) || decide (n = 58) || decide (n = 64) || decide (n = 126) || decide (n = 94))) = true := by kernel_rfl
  have h := List.all_eq_true.1 key b.toNat (List.mem_range.2 (UInt8.toNat_lt b))
  have hb : UInt8.ofNat b.toNat = b := by simp
  rw [hb] at h
  simpa using h
theorem contains_low (b : UInt8) (hb : b.toNat < 128) (w : World) :
    Calls Tryz.prog 177 #[.string signs9, .int .i32 (b.toNat : Int)] w fun e w' => e = .returned (.bool (decide (0 ≤ Lib.indexByte signs9.data.toList b))) ∧ w' = w := by
  have hR := fun W => rune_low b hb W
  generalize Lib.indexByte signs9.data.toList b = ix at *
  go_enter Tryz.func177, Tryz.ntmps177
  go_wp2_with (go_at_call 198; with_reducible refine (hR _).mono ?_; rintro e w1 ⟨rfl, rfl⟩)
  go_ret
  exact ⟨rfl, rfl⟩
theorem contains_high (r : Int) (h0 : 128 ≤ r) (w : World) :
    Calls Tryz.prog 177 #[.string signs9, .int .i32 r] w fun e w' => e = .returned (.bool false) ∧ Kept (fun _ => False) w w' := by
  have hR : ∀ W, Calls Tryz.prog 198 #[.string signs9, .int .i32 r] W fun e w' => e = .returned (.int .i64 (-1)) ∧ Kept (fun _ => False) W w' := fun W => by
    by_cases he : r = 65533
    · subst he; exact rune_err W
    · cases hv : Lib.validRune r with
      | true => exact rune_high r h0 he hv W
      | false => exact rune_bad r h0 he hv W
  clear h0
  go_enter Tryz.func177, Tryz.ntmps177
  go_wp2_with (go_at_call 198; with_reducible refine (hR _).mono ?_; rintro e w1 ⟨rfl, hk⟩)
  go_ret
  exact ⟨rfl, hk⟩
set_option maxRecDepth 100000 in
theorem mayRune_low (b : UInt8) (hb : b.toNat < 128) (w : World) :
    Calls Tryz.prog 138 #[.int .i32 (b.toNat : Int)] w fun e w' => e = .returned (.bool (signD b)) ∧ w' = w := by
  by_cases c3 : (97 ≤ b.toNat ∧ b.toNat ≤ 122) ∨ (65 ≤ b.toNat ∧ b.toNat ≤ 90) ∨ (48 ≤ b.toNat ∧ b.toNat ≤ 57)
  · have fin := Lib.hid (show signD b = true by unfold signD okB; simp; omega)
    rcases c3 with ⟨a1, a2⟩ | ⟨a1, a2⟩ | ⟨a1, a2⟩
    all_goals
      go_enter Tryz.func138, Tryz.ntmps138
      go_wp2_with fail
      go_ret
      exact ⟨by rw [fin.out]; rfl, rfl⟩
  · have hI := fun W => contains_low b hb W
    have h1 := index_sign9 b
    have fin := Lib.hid (show signD b = decide (0 ≤ Lib.indexByte signs9.data.toList b) by
      rw [h1, Bool.eq_iff_iff]
      unfold signD okB
      simp
      omega)
    have hc : b.toNat < 48 ∨ (57 < b.toNat ∧ b.toNat < 65) ∨ (90 < b.toNat ∧ b.toNat < 97) ∨ 122 < b.toNat := by omega
    generalize Lib.indexByte signs9.data.toList b = ix at *
    clear h1 c3 hb
    rcases hc with hc | ⟨hc, hd⟩ | ⟨hc, hd⟩ | hc
    all_goals
      go_enter Tryz.func138, Tryz.ntmps138
      go_wp2_with (go_at_call 177; with_reducible refine (hI _).mono ?_; rintro e w1 ⟨rfl, rfl⟩)
      go_ret
      exact ⟨by rw [fin.out]; rfl, rfl⟩
set_option maxRecDepth 100000 in
theorem mayRune_high (r : Int) (h0 : 128 ≤ r) (w : World) :
    Calls Tryz.prog 138 #[.int .i32 r] w fun e w' => e = .returned (.bool false) ∧ Kept (fun _ => False) w w' := by
  have hI := fun W => contains_high r h0 W
  go_enter Tryz.func138, Tryz.ntmps138
  go_wp2_with (go_at_call 177; with_reducible refine (hI _).mono ?_; rintro e w1 ⟨rfl, hk⟩)
  go_ret
  exact ⟨rfl, hk⟩
end Go.Proofs.YtpdoeapjdifmbaaGreatDoor

namespace Go.Proofs.YtpdoeapjdifmbaaGreatDoor
open Go.RowKit Ver Evr Dep

def nn0 : ByteArray := ⟨#[97, 110, 100]⟩
def nn1 : ByteArray := ⟨#[111, 114]⟩
def nn2 : ByteArray := ⟨#[105, 102]⟩
def nn3 : ByteArray := ⟨#[101, 108, 115, 101]⟩
def nn4 : ByteArray := ⟨#[117, 110, 108, 101, 115, 115]⟩
def nn5 : ByteArray := ⟨#[119, 105, 116, 104]⟩
def nn6 : ByteArray := ⟨#[119, 105, 116, 104, 111, 117, 116]⟩
/-- The array of words that are no names lies as the program's text lays it. -/
structure NotW (w : World) : Prop where
  old : 0 < w.heap.size
  n0 : w.cell? ⟨0, 0, none⟩ = some (.string nn0)
  n1 : w.cell? ⟨0, 1, none⟩ = some (.string nn1)
  n2 : w.cell? ⟨0, 2, none⟩ = some (.string nn2)
  n3 : w.cell? ⟨0, 3, none⟩ = some (.string nn3)
  n4 : w.cell? ⟨0, 4, none⟩ = some (.string nn4)
  n5 : w.cell? ⟨0, 5, none⟩ = some (.string nn5)
  n6 : w.cell? ⟨0, 6, none⟩ = some (.string nn6)
theorem NotW.kept {w w' : World} (h : NotW w) (k : Kept (fun _ => False) w w') : NotW w' := by
  have hlt : ∀ i : Nat, (⟨0, i, none⟩ : Addr).block < w.heap.size := fun _ => h.old
  exact ⟨Nat.lt_of_lt_of_le h.old k.size, (k.cell (hlt 0) (fun h => h)).trans h.n0, (k.cell (hlt 1) (fun h => h)).trans h.n1, (k.cell (hlt 2) (fun h => h)).trans h.n2, (k.cell (hlt 3) (fun h => h)).trans h.n3, (k.cell (hlt 4) (fun h => h)).trans h.n4, (k.cell (hlt 5) (fun h => h)).trans h.n5, (k.cell (hlt 6) (fun h => h)).trans h.n6⟩
theorem no_name (s : ByteArray) : noNames.contains s.data.toList = ((s.toList == nn0.toList) || (s.toList == nn1.toList) || (s.toList == nn2.toList) || (s.toList == nn3.toList) || (s.toList == nn4.toList) || (s.toList == nn5.toList) || (s.toList == nn6.toList)) := by
  simp only [ByteArray.toList_eq, noNames, List.contains_cons, List.contains_nil, Bool.or_false, Bool.or_assoc]
  rfl
theorem take_sign {s : List UInt8} {i : Nat} {c : UInt8} (h : (s.take i).all signD = true) (hc : s[i]? = some c) (hok : signD c = true) : (s.take (i + 1)).all signD = true := by
  rw [List.take_add_one, hc, List.all_append, h]
  simp [hok]
theorem name_not {s : List UInt8} {i : Nat} {c : UInt8} (hc : s[i]? = some c) (hok : signD c = false) : nameD s = false := by
  unfold nameD
  have : s.all signD = false := by
    rw [Bool.eq_false_iff]
    intro h
    have := List.all_eq_true.1 h c (List.mem_of_getElem? hc)
    rw [hok] at this
    cases this
  rw [this]
  simp
theorem name_long {s : List UInt8} (h : 64 < s.length) : nameD s = false := by
  unfold nameD
  rw [show decide (s.length ≤ 64) = false by simp; omega]
  simp
theorem name_word {s : List UInt8} (h : noNames.contains s = true) : nameD s = false := by
  unfold nameD
  rw [h]
  simp
theorem name_all {s : List UInt8} (h1 : 1 ≤ s.length) (h2 : s.length ≤ 64) (h : s.all signD = true) (hw : noNames.contains s = false) : nameD s = true := by
  unfold nameD
  rw [h, hw]
  simp [h1, h2]

set_option maxRecDepth 100000 in
set_option maxHeartbeats 2000000 in
theorem name_walk (s : ByteArray) (w : World) (hW : NotW w) :
    Calls Tryz.prog 107 #[.string s] w fun e w' => e = .returned (.bool (nameD s.data.toList)) ∧ Kept (fun _ => False) w w' := by
  by_cases h0 : s = ⟨#[]⟩
  · subst h0
    go_enter Tryz.func107, Tryz.ntmps107
    go_wp2_with fail
    go_ret
    exact ⟨rfl, Kept.refl _ _⟩
  · obtain ⟨b1, b2⟩ := text_ne h0
    have hsl : s.data.toList.length = s.size := rfl
    have hs1 : 1 ≤ s.size := by
      rcases Nat.eq_zero_or_pos s.size with h | h
      · exact absurd (empty_text.1 (List.eq_nil_of_length_eq_zero (by rw [hsl]; exact h))) h0
      · exact h
    clear h0
    by_cases h1 : 64 < s.size
    · have HN := Lib.hid (@name_long s.data.toList (by rw [hsl]; exact h1))
      have h1' : (64 : Int) < (s.size : Int) := by omega
      clear hsl
      go_enter Tryz.func107, Tryz.ntmps107
      go_wp2_with fail
      go_ret
      exact ⟨by rw [HN.out]; rfl, Kept.refl _ _⟩
    · have h1' : ¬ (64 : Int) < (s.size : Int) := by omega
      have HY := Lib.hid (fun h hw => @name_all s.data.toList (by rw [hsl]; exact hs1) (by rw [hsl]; omega) h hw)
      have HC := Lib.hid (no_name s)
      have HSL := Lib.hid hsl
      have HNW := Lib.hid hW
      clear hsl hW
      go_enter Tryz.func107, Tryz.ntmps107
      go_wp2_with fail
      go_loopw [] (fun wr => ∃ pos : Nat, wr = w.iter s pos ∧ pos ≤ s.size ∧ Hid ((s.data.toList.take pos).all signD = true)) (fun wr => s.size - wr.iterPos w.heap.size)
      case atStart => exact ⟨0, rfl, Nat.zero_le _, Lib.hid rfl⟩
      case round =>
        obtain ⟨pos, rfl, hp, HA⟩ := hrel
        by_cases hlt : pos < s.size
        · obtain ⟨c, hc⟩ : ∃ c, c = s[pos] := ⟨_, rfl⟩
          have HCL := Lib.hid (char_at hlt hc)
          by_cases hlow : c.toNat < 128
          · have hnx : ∀ ty, (Instr.next (.pointer (some ⟨w.heap.size, 0, none⟩)) true ty).run Tryz.prog (w.iter s pos) = .ok (.tuple #[.bool true, .int .i64 pos, .int .i32 (c.toNat : Int)]) (w.iter s (pos + 1)) := fun ty => by
              rw [hc]
              exact run_next_ascii w s pos ty hlt (by rw [← hc]; exact hlow)
            have hM := fun W => mayRune_low c hlow W
            clear hc
            cases hok : signD c with
            | true =>
              rw [hok] at hM
              have HOK := Lib.hid hok
              clear hok hlow
              go_wp2_with (first | (go_at_call 138; with_reducible refine (hM _).mono ?_; rintro e w1 ⟨rfl, rfl⟩) | fail)
              go_roundw
              case rel => exact ⟨pos + 1, rfl, by omega, Lib.hid (take_sign HA.out HCL.out HOK.out)⟩
              case measure => simp; omega
            | false =>
              rw [hok] at hM
              have HN := Lib.hid (name_not HCL.out hok)
              clear hok hlow
              go_wp2_with (first | (go_at_call 138; with_reducible refine (hM _).mono ?_; rintro e w1 ⟨rfl, rfl⟩) | fail)
              go_ret
              exact ⟨by rw [HN.out]; rfl, (Kept.refl _ _).alloc _⟩
          · have hhi := decode_high s pos hlt (by rw [← hc]; omega)
            have hnx : ∀ ty, (Instr.next (.pointer (some ⟨w.heap.size, 0, none⟩)) true ty).run Tryz.prog (w.iter s pos) = .ok (.tuple #[.bool true, .int .i64 pos, .int .i32 (Utf8.decode s pos).1]) (w.iter s (pos + (Utf8.decode s pos).2)) := fun ty => run_next_any w s pos ty hlt
            have HN := Lib.hid (name_not HCL.out (by unfold signD okB; simp; omega))
            generalize (Utf8.decode s pos).1 = R at hnx hhi
            generalize (Utf8.decode s pos).2 = K at hnx hhi
            have hM := fun W => mayRune_high (R : Int) (by omega) W
            clear hc hlow hhi
            go_wp2_with (first | (go_at_call 138; with_reducible refine (hM _).mono ?_; rintro e w1 ⟨rfl, hk1⟩) | fail)
            go_ret
            exact ⟨by rw [HN.out]; rfl, ((Kept.refl _ _).alloc _).trans hk1 (fun _ _ h => h)⟩
        · have hnx : ∀ ty, (Instr.next (.pointer (some ⟨w.heap.size, 0, none⟩)) true ty).run Tryz.prog (w.iter s pos) = .ok (.tuple #[.bool false]) (w.iter s pos) := fun ty => run_next_end w s pos ty hlt
          obtain rfl : pos = s.size := by omega
          have hall : s.data.toList.all signD = true := by have := HA.out; rwa [List.take_of_length_le (by rw [HSL.out]; exact Nat.le_refl _)] at this
          have HK := Lib.hid ((Kept.refl (fun _ => False) w).alloc (.stringIter s s.size))
          have hN2 := HNW.out.kept HK.out
          have HF : Hid (nameD s.data.toList = !((s.toList == nn0.toList) || (s.toList == nn1.toList) || (s.toList == nn2.toList) || (s.toList == nn3.toList) || (s.toList == nn4.toList) || (s.toList == nn5.toList) || (s.toList == nn6.toList))) := Lib.hid (by
            rw [← HC.out]
            cases hw : noNames.contains s.data.toList with
            | true => exact name_word hw
            | false => exact HY.out hall hw)
          have c0 : (w.iter s s.size).cell? ⟨0, 0, none⟩ = some (.string nn0) := hN2.n0
          have c1 : (w.iter s s.size).cell? ⟨0, 1, none⟩ = some (.string nn1) := hN2.n1
          have c2 : (w.iter s s.size).cell? ⟨0, 2, none⟩ = some (.string nn2) := hN2.n2
          have c3 : (w.iter s s.size).cell? ⟨0, 3, none⟩ = some (.string nn3) := hN2.n3
          have c4 : (w.iter s s.size).cell? ⟨0, 4, none⟩ = some (.string nn4) := hN2.n4
          have c5 : (w.iter s s.size).cell? ⟨0, 5, none⟩ = some (.string nn5) := hN2.n5
          have c6 : (w.iter s s.size).cell? ⟨0, 6, none⟩ = some (.string nn6) := hN2.n6
          have hX0 : ∀ W, (Instr.index 151 (.agg #[.string nn0, .string nn1, .string nn2, .string nn3, .string nn4, .string nn5, .string nn6]) (.int .i64 0)).run Tryz.prog W = .ok (.string nn0) W := fun W => by kernel_rfl
          have hX1 : ∀ W, (Instr.index 151 (.agg #[.string nn0, .string nn1, .string nn2, .string nn3, .string nn4, .string nn5, .string nn6]) (.int .i64 1)).run Tryz.prog W = .ok (.string nn1) W := fun W => by kernel_rfl
          have hX2 : ∀ W, (Instr.index 151 (.agg #[.string nn0, .string nn1, .string nn2, .string nn3, .string nn4, .string nn5, .string nn6]) (.int .i64 2)).run Tryz.prog W = .ok (.string nn2) W := fun W => by kernel_rfl
          have hX3 : ∀ W, (Instr.index 151 (.agg #[.string nn0, .string nn1, .string nn2, .string nn3, .string nn4, .string nn5, .string nn6]) (.int .i64 3)).run Tryz.prog W = .ok (.string nn3) W := fun W => by kernel_rfl
          have hX4 : ∀ W, (Instr.index 151 (.agg #[.string nn0, .string nn1, .string nn2, .string nn3, .string nn4, .string nn5, .string nn6]) (.int .i64 4)).run Tryz.prog W = .ok (.string nn4) W := fun W => by kernel_rfl
          have hX5 : ∀ W, (Instr.index 151 (.agg #[.string nn0, .string nn1, .string nn2, .string nn3, .string nn4, .string nn5, .string nn6]) (.int .i64 5)).run Tryz.prog W = .ok (.string nn5) W := fun W => by kernel_rfl
          have hX6 : ∀ W, (Instr.index 151 (.agg #[.string nn0, .string nn1, .string nn2, .string nn3, .string nn4, .string nn5, .string nn6]) (.int .i64 6)).run Tryz.prog W = .ok (.string nn6) W := fun W => by kernel_rfl
          clear hall hN2 HY HC HA
          generalize hq0 : (s.toList == nn0.toList) = q0 at HF
          generalize hq1 : (s.toList == nn1.toList) = q1 at HF
          generalize hq2 : (s.toList == nn2.toList) = q2 at HF
          generalize hq3 : (s.toList == nn3.toList) = q3 at HF
          generalize hq4 : (s.toList == nn4.toList) = q4 at HF
          generalize hq5 : (s.toList == nn5.toList) = q5 at HF
          generalize hq6 : (s.toList == nn6.toList) = q6 at HF
          cases q0 with
          | true =>
            go_wp2_with fail
            refine wp_loop_rounds 8 ?_
            rw [rounds_succ]
            go_wp2_with fail
            go_ret
            exact ⟨by rw [HF.out]; rfl, HK.out⟩
          | false =>
            cases q1 with
            | true =>
              go_wp2_with fail
              refine wp_loop_rounds 8 ?_
              rw [rounds_succ]
              go_wp2_with fail
              rw [rounds_succ]
              go_wp2_with fail
              go_ret
              exact ⟨by rw [HF.out]; rfl, HK.out⟩
            | false =>
              cases q2 with
              | true =>
                go_wp2_with fail
                refine wp_loop_rounds 8 ?_
                rw [rounds_succ]
                go_wp2_with fail
                rw [rounds_succ]
                go_wp2_with fail
                rw [rounds_succ]
                go_wp2_with fail
                go_ret
                exact ⟨by rw [HF.out]; rfl, HK.out⟩
              | false =>
                cases q3 with
                | true =>
                  go_wp2_with fail
                  refine wp_loop_rounds 8 ?_
                  rw [rounds_succ]
                  go_wp2_with fail
                  rw [rounds_succ]
                  go_wp2_with fail
                  rw [rounds_succ]
                  go_wp2_with fail
                  rw [rounds_succ]
                  go_wp2_with fail
                  go_ret
                  exact ⟨by rw [HF.out]; rfl, HK.out⟩
                | false =>
                  cases q4 with
                  | true =>
                    go_wp2_with fail
                    refine wp_loop_rounds 8 ?_
                    rw [rounds_succ]
                    go_wp2_with fail
                    rw [rounds_succ]
                    go_wp2_with fail
                    rw [rounds_succ]
                    go_wp2_with fail
                    rw [rounds_succ]
                    go_wp2_with fail
                    rw [rounds_succ]
                    go_wp2_with fail
                    go_ret
                    exact ⟨by rw [HF.out]; rfl, HK.out⟩
                  | false =>
                    cases q5 with
                    | true =>
                      go_wp2_with fail
                      refine wp_loop_rounds 8 ?_
                      rw [rounds_succ]
                      go_wp2_with fail
                      rw [rounds_succ]
                      go_wp2_with fail
                      rw [rounds_succ]
                      go_wp2_with fail
                      rw [rounds_succ]
                      go_wp2_with fail
                      rw [rounds_succ]
                      go_wp2_with fail
                      rw [rounds_succ]
                      go_wp2_with fail
                      go_ret
                      exact ⟨by rw [HF.out]; rfl, HK.out⟩
                    | false =>
                      cases q6 with
                      | true =>
                        go_wp2_with fail
                        refine wp_loop_rounds 8 ?_
                        rw [rounds_succ]
                        go_wp2_with fail
                        rw [rounds_succ]
                        go_wp2_with fail
                        rw [rounds_succ]
                        go_wp2_with fail
                        rw [rounds_succ]
                        go_wp2_with fail
                        rw [rounds_succ]
                        go_wp2_with fail
                        rw [rounds_succ]
                        go_wp2_with fail
                        rw [rounds_succ]
                        go_wp2_with fail
                        go_ret
                        exact ⟨by rw [HF.out]; rfl, HK.out⟩
                      | false =>
                        go_wp2_with fail
                        refine wp_loop_rounds 8 ?_
                        rw [rounds_succ]
                        go_wp2_with fail
                        rw [rounds_succ]
                        go_wp2_with fail
                        rw [rounds_succ]
                        go_wp2_with fail
                        rw [rounds_succ]
                        go_wp2_with fail
                        rw [rounds_succ]
                        go_wp2_with fail
                        rw [rounds_succ]
                        go_wp2_with fail
                        rw [rounds_succ]
                        go_wp2_with fail
                        rw [rounds_succ]
                        go_wp2_with fail
                        go_ret
                        exact ⟨by rw [HF.out]; rfl, HK.out⟩

theorem hasPrefix_slash (s : ByteArray) : Lib.hasPrefix s.data.toList [47] = (s.data.toList.head? == some 47) := by
  unfold Lib.hasPrefix
  cases s.data.toList with
  | nil => rfl
  | cons b l =>
    show (47 == b && [].isPrefixOf l) = (some b == some 47)
    rw [Bool.eq_iff_iff]
    simp
    exact eq_comm
theorem file_walk (s : ByteArray) (w : World) (hW : NotW w) :
    Calls Tryz.prog 108 #[.string s] w fun e w' => e = .returned (.bool (fileD s.data.toList)) ∧ Kept (fun _ => False) w w' := by
  have hN := name_walk s w hW
  have hP : Calls Tryz.prog 139 #[.string s, .string ⟨#[47]⟩] w fun e w' => e = .returned (.bool (s.data.toList.head? == some 47)) ∧ w' = w := by
    have := sh_strings_HasPrefix s ⟨#[47]⟩ w
    rw [show (⟨#[47]⟩ : ByteArray).data.toList = [47] from rfl, hasPrefix_slash] at this
    exact this
  have HF := Lib.hid (show fileD s.data.toList = (nameD s.data.toList && s.data.toList.head? == some 47) from rfl)
  generalize nameD s.data.toList = x at *
  generalize (s.data.toList.head? == some 47) = y at *
  cases y
  · go_enter Tryz.func108, Tryz.ntmps108
    go_wp2_with (go_at_call 139; with_reducible refine hP.mono ?_; rintro e w1 ⟨rfl, rfl⟩)
    go_ret
    exact ⟨by rw [HF.out]; cases x <;> rfl, Kept.refl _ _⟩
  · go_enter Tryz.func108, Tryz.ntmps108
    go_wp2_with (first
      | (go_at_call 139; with_reducible refine hP.mono ?_; rintro e w1 ⟨rfl, rfl⟩)
      | (go_at_call 107; with_reducible refine hN.mono ?_; rintro e w1 ⟨rfl, hk⟩))
    go_ret
    exact ⟨by rw [HF.out]; cases x <;> rfl, hk⟩
end Go.Proofs.YtpdoeapjdifmbaaGreatDoor

namespace Go.Proofs.YtpdoeapjdifmbaaGreatDoor
open Go.RowKit Ver Evr Dep

end Go.Proofs.YtpdoeapjdifmbaaGreatDoor

namespace Go.Proofs.YtpdoeapjdifmbaaGreatDoor
open Go.RowKit Span Evr

end Go.Proofs.YtpdoeapjdifmbaaGreatDoor
