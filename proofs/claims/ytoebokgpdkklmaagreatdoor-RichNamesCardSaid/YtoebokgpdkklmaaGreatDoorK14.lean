/-
  strings.IndexRune and strings.ContainsRune among the signs of a name, at any rune that a text may hold; which runes may stand in a name. The walks over the program's own text of layer 6: which names may be, and which are a file's. Conditions: the array of words that are no names lies as the program's text lays it. What a row lists of a package-level table (numbers, texts, bools, arrays and structs of these) is what the table's cells hold. From what a row of layer 6 lists of the library's variables, and of the program's own array, to what the walks ask of them. Conditions: as each theorem states.
-/
import Derived.Test.YtoebokgpdkklmaaGreatDoorK13
import Derived.Test.YtoebokgpdkklmaaGreatDoorK02
import Derived.Laws.Runes
import Derived.WalkMore
import Derived.Laws.RangeAny
import Derived.Lib.OthersKept
import Derived.OpenShut
import Derived.ChangeArms
import Derived.LaidSub
import Derived.Lib.LaidTab
import Derived.FnData
import Derived.Test.YtoebokgpdkklmaaGreatDoorK12
import Derived.Stop.LaidErr
import Derived.MakeChecks
namespace Go.Proofs.YtoebokgpdkklmaaGreatDoor
open Go.RowKit Ver Evr Dep

/-- The signs that may stand in a name. -/
abbrev signs9 : ByteArray := ⟨#[46, 95, 43, 45, 47, 58, 64, 126, 94]⟩
theorem signs_low : ∀ (pos : Nat) (h : pos < signs9.size), (signs9[pos]'h).toNat < 128 := by decide
theorem signs_all : ∀ b ∈ signs9.data.toList, b.toNat < 128 := by decide
theorem sign_none (a e : Nat) (c : UInt8) (hc : 128 ≤ c.toNat) : Lib.indexByte (signs9.extract a e).data.toList c = -1 := by
  rw [← Lib.firstIdx_eq]
  exact firstIdx_ascii signs9 a e c signs_all hc

set_option maxRecDepth 100000 in
set_option maxHeartbeats 2000000 in
theorem rune_low (b : UInt8) (hb : b.toNat < 128) (w : World) :
    Calls Tryz.prog 88 #[.string signs9, .int .i32 (b.toNat : Int)] w fun e w' => e = .returned (.int .i64 (Lib.indexByte signs9.data.toList b)) ∧ w' = w :=
  (sh_strings_IndexRune_ascii signs9 (b.toNat : Int) w (by omega) (by omega)).mono fun e w' ⟨h1, h2⟩ => ⟨by rw [h1]; simp, h2⟩

set_option maxRecDepth 100000 in
set_option maxHeartbeats 2000000 in
theorem rune_err (w : World) :
    Calls Tryz.prog 88 #[.string signs9, .int .i32 65533] w fun e w' => e = .returned (.int .i64 (-1)) ∧ Kept (fun _ => False) w w' := by
  go_enter Tryz.func88, Tryz.ntmps88
  go_wp2_with fail
  go_loopw [] (fun wr => ∃ pos : Nat, wr = w.iter signs9 pos ∧ pos ≤ 9) (fun wr => 9 - wr.iterPos w.heap.size)
  case atStart => exact ⟨0, rfl, by omega⟩
  case round =>
    obtain ⟨pos, rfl, hp⟩ := hrel
    by_cases h : pos < 9
    · have hnx : ∀ ty, (Instr.next (.pointer (some ⟨w.heap.size, 0, none⟩)) true ty).run Tryz.prog (w.iter signs9 pos) = _ := fun ty => run_next_ascii w signs9 pos ty h (signs_low pos h)
      have hlow := signs_low pos h
      generalize (signs9[pos]'h).toNat = R at hnx hlow
      have hne : ((R : Int) == 65533) = false := by simp; omega
      go_wp2_with fail
      go_roundw
      case rel => exact ⟨pos + 1, rfl, by omega⟩
      case measure => simp; omega
    · have hnx : ∀ ty, (Instr.next (.pointer (some ⟨w.heap.size, 0, none⟩)) true ty).run Tryz.prog (w.iter signs9 pos) = _ := fun ty => run_next_end w signs9 pos ty (by show ¬ pos < 9; exact h)
      go_wp2_with fail
      go_ret
      exact ⟨rfl, (Kept.refl _ _).alloc _⟩
set_option maxRecDepth 100000 in
set_option maxHeartbeats 2000000 in
theorem rune_bad (r : Int) (h0 : 128 ≤ r) (he : r ≠ 65533) (hv : Lib.validRune r = false) (w : World) :
    Calls Tryz.prog 88 #[.string signs9, .int .i32 r] w fun e w' => e = .returned (.int .i64 (-1)) ∧ Kept (fun _ => False) w w' := by
  have hV : ∀ W, Calls Tryz.prog 95 #[.int .i32 r] W fun e w' => e = .returned (.bool false) ∧ w' = W := fun W => by
    have := sh_utf8_ValidRune r W
    rw [hv] at this
    exact this
  have g1 : decide (r < 128) = false := by simp; omega
  have g2 : (r == 65533) = false := by simp; exact he
  have g3 : decide (0 ≤ r) = true := by simp; omega
  clear hv he
  go_enter Tryz.func88, Tryz.ntmps88
  go_wp2_with (go_at_call 95; with_reducible refine (hV _).mono ?_; rintro e w1 ⟨rfl, rfl⟩)
  go_ret
  exact ⟨rfl, Kept.refl _ _⟩
set_option maxRecDepth 100000 in
set_option maxHeartbeats 2000000 in
theorem rune_high (r : Int) (h0 : 128 ≤ r) (he : r ≠ 65533) (hv : Lib.validRune r = true) (w : World) :
    Calls Tryz.prog 88 #[.string signs9, .int .i32 r] w fun e w' => e = .returned (.int .i64 (-1)) ∧ Kept (fun _ => False) w w' := by
  have hV : ∀ W, Calls Tryz.prog 95 #[.int .i32 r] W fun e w' => e = .returned (.bool true) ∧ w' = W := fun W => by
    have := sh_utf8_ValidRune r W
    rw [hv] at this
    exact this
  obtain ⟨hs2, hs4, hlast⟩ := encode_facts r (by rw [validRune_eq]; exact hv) h0
  have hconv : ∀ W, (convert 21 9 (.int .i32 r)).run Tryz.prog W = .ok (.string (Utf8.encode r)) W := fun W => run_convert_int_string W _ _ _ _ (by kernel_rfl) Tryz.underlying9
  generalize Utf8.encode r = E at hconv hs2 hs4 hlast
  have g1 : decide (r < 128) = false := by simp; omega
  have g2 : (r == 65533) = false := by simp; exact he
  have g3 : decide (0 ≤ r) = true := by simp; omega
  have hI : ∀ (a e : Nat) (c : UInt8) (_ : 128 ≤ c.toNat) (W : World), Calls Tryz.prog 89 #[.string (signs9.extract a e), .int .u8 (c.toNat : Int)] W fun e w' => e = .returned (.int .i64 (-1)) ∧ w' = W := fun a e c hc W =>
    (sh_strings_IndexByte (signs9.extract a e) (c.toNat : Int) W).mono fun e' w' ⟨h1, h2⟩ => ⟨by rw [h1]; simp only [Int.toNat_natCast, Nat.toUInt8_eq, UInt8.ofNat_toNat]; rw [sign_none a e c hc], h2⟩
  clear hv he
  obtain ⟨c, hc⟩ : ∃ c, c = E[E.size - 1]'(by omega) := ⟨_, rfl⟩
  have hcl : 128 ≤ c.toNat := by rw [hc]; exact hlast _
  have hI2 := fun a e W => hI a e c hcl W
  have HI := Lib.hid hI2
  have hsz : E.size = 2 ∨ E.size = 3 ∨ E.size = 4 := by omega
  clear hlast hI hI2
  have hn1 : (((signs9[1]'(by decide)).toNat : Int) != (c.toNat : Int)) = true := by
    rw [show (signs9[1]'(by decide)) = 95 from rfl]
    simp
    omega
  have hn2 : (((signs9[2]'(by decide)).toNat : Int) != (c.toNat : Int)) = true := by
    rw [show (signs9[2]'(by decide)) = 43 from rfl]
    simp
    omega
  have hn3 : (((signs9[3]'(by decide)).toNat : Int) != (c.toNat : Int)) = true := by
    rw [show (signs9[3]'(by decide)) = 45 from rfl]
    simp
    omega
  have hS2 : ∀ W, (Instr.slice 9 (.string signs9) (some (.int .i64 2)) none none).run Tryz.prog W = .ok (.string (signs9.extract 2 9)) W := fun W => by kernel_rfl
  have hS3 : ∀ W, (Instr.slice 9 (.string signs9) (some (.int .i64 3)) none none).run Tryz.prog W = .ok (.string (signs9.extract 3 9)) W := fun W => by kernel_rfl
  have hS4 : ∀ W, (Instr.slice 9 (.string signs9) (some (.int .i64 4)) none none).run Tryz.prog W = .ok (.string (signs9.extract 4 9)) W := fun W => by kernel_rfl
  have hw2 : IntKind.i64.wrap 2 = 2 := by kernel_rfl
  have hw3 : IntKind.i64.wrap 3 = 3 := by kernel_rfl
  have hw4 : IntKind.i64.wrap 4 = 4 := by kernel_rfl
  rcases hsz with h2 | h2 | h2
  · have hc' : E[1]'(by omega) = c := by rw [hc]; simp [h2]
    clear hc
    go_enter Tryz.func88, Tryz.ntmps88
    go_wp2_with (first | (go_at_call 95; with_reducible refine (hV _).mono ?_; rintro e w1 ⟨rfl, rfl⟩) | fail)
    go_step3
    go_wp2_with fail
    refine wp_loop_rounds 1 ?_
    rw [rounds_succ]
    go_wp2_with fail
    go_step3
    go_wp2_with fail
    go_quiet (fail)
    have hk := (Kept.refl (fun _ => False) w1).drewN nq
    generalize w1.drewN nq = w2 at hk ⊢
    go_wp2_with fail
    go_quiet ((go_at_call 89; exact Calls.quiet_of_same (HI.out _ _ _)))
    go_wp2_with fail
    simp only [Exit.inBlock, Exit.then, Exit.noGoto_ret]
    go_ret
    exact ⟨rfl, hk.drewN _⟩
  · have hc' : E[2]'(by omega) = c := by rw [hc]; simp [h2]
    clear hc
    go_enter Tryz.func88, Tryz.ntmps88
    go_wp2_with (first | (go_at_call 95; with_reducible refine (hV _).mono ?_; rintro e w1 ⟨rfl, rfl⟩) | fail)
    go_step3
    go_wp2_with fail
    refine wp_loop_rounds 1 ?_
    rw [rounds_succ]
    go_wp2_with fail
    go_step3
    go_wp2_with fail
    go_quiet (fail)
    have hk := (Kept.refl (fun _ => False) w1).drewN nq
    generalize w1.drewN nq = w2 at hk ⊢
    go_wp2_with fail
    go_quiet ((go_at_call 89; exact Calls.quiet_of_same (HI.out _ _ _)))
    go_wp2_with fail
    simp only [Exit.inBlock, Exit.then, Exit.noGoto_ret]
    go_ret
    exact ⟨rfl, hk.drewN _⟩
  · have hc' : E[3]'(by omega) = c := by rw [hc]; simp [h2]
    clear hc
    go_enter Tryz.func88, Tryz.ntmps88
    go_wp2_with (first | (go_at_call 95; with_reducible refine (hV _).mono ?_; rintro e w1 ⟨rfl, rfl⟩) | fail)
    go_step3
    go_wp2_with fail
    refine wp_loop_rounds 1 ?_
    rw [rounds_succ]
    go_wp2_with fail
    go_step3
    go_wp2_with fail
    go_quiet (fail)
    have hk := (Kept.refl (fun _ => False) w1).drewN nq
    generalize w1.drewN nq = w2 at hk ⊢
    go_wp2_with fail
    go_quiet ((go_at_call 89; exact Calls.quiet_of_same (HI.out _ _ _)))
    go_wp2_with fail
    simp only [Exit.inBlock, Exit.then, Exit.noGoto_ret]
    go_ret
    exact ⟨rfl, hk.drewN _⟩

/-- Whether a rune may stand in a name. -/
theorem index_sign9 : ∀ b : UInt8, decide (0 ≤ Lib.indexByte signs9.data.toList b) = (decide (b.toNat = 46) || decide (b.toNat = 95) || decide (b.toNat = 43) || decide (b.toNat = 45) || decide (b.toNat = 47) || decide (b.toNat = 58) || decide (b.toNat = 64) || decide (b.toNat = 126) || decide (b.toNat = 94)) := by
  intro b
  have key : ((List.range 256).all fun n => decide (0 ≤ Lib.indexByte signs9.data.toList (UInt8.ofNat n)) == (decide (n = 46) || decide (n = 95) || decide (n = 43) || decide (n = 45) || decide (n = 47) || decide (n = 58) || decide (n = 64) || decide (n = 126) || decide (n = 94))) = true := by kernel_rfl
  have h := List.all_eq_true.1 key b.toNat (List.mem_range.2 (UInt8.toNat_lt b))
  have hb : UInt8.ofNat b.toNat = b := by simp
  rw [hb] at h
  simpa using h
theorem contains_low (b : UInt8) (hb : b.toNat < 128) (w : World) :
    Calls Tryz.prog 82 #[.string signs9, .int .i32 (b.toNat : Int)] w fun e w' => e = .returned (.bool (decide (0 ≤ Lib.indexByte signs9.data.toList b))) ∧ w' = w := by
  have hR := fun W => rune_low b hb W
  generalize Lib.indexByte signs9.data.toList b = ix at *
  go_enter Tryz.func82, Tryz.ntmps82
  go_wp2_with (go_at_call 88; with_reducible refine (hR _).mono ?_; rintro e w1 ⟨rfl, rfl⟩)
  go_ret
  exact ⟨rfl, rfl⟩
theorem contains_high (r : Int) (h0 : 128 ≤ r) (w : World) :
    Calls Tryz.prog 82 #[.string signs9, .int .i32 r] w fun e w' => e = .returned (.bool false) ∧ Kept (fun _ => False) w w' := by
  have hR : ∀ W, Calls Tryz.prog 88 #[.string signs9, .int .i32 r] W fun e w' => e = .returned (.int .i64 (-1)) ∧ Kept (fun _ => False) W w' := fun W => by
    by_cases he : r = 65533
    · subst he; exact rune_err W
    · cases hv : Lib.validRune r with
      | true => exact rune_high r h0 he hv W
      | false => exact rune_bad r h0 he hv W
  clear h0
  go_enter Tryz.func82, Tryz.ntmps82
  go_wp2_with (go_at_call 88; with_reducible refine (hR _).mono ?_; rintro e w1 ⟨rfl, hk⟩)
  go_ret
  exact ⟨rfl, hk⟩
set_option maxRecDepth 100000 in
theorem mayRune_low (b : UInt8) (hb : b.toNat < 128) (w : World) :
    Calls Tryz.prog 69 #[.int .i32 (b.toNat : Int)] w fun e w' => e = .returned (.bool (signD b)) ∧ w' = w := by
  by_cases c3 : (97 ≤ b.toNat ∧ b.toNat ≤ 122) ∨ (65 ≤ b.toNat ∧ b.toNat ≤ 90) ∨ (48 ≤ b.toNat ∧ b.toNat ≤ 57)
  · have fin := Lib.hid (show signD b = true by unfold signD okB; simp; omega)
    rcases c3 with ⟨a1, a2⟩ | ⟨a1, a2⟩ | ⟨a1, a2⟩
    all_goals
      go_enter Tryz.func69, Tryz.ntmps69
      go_wp2_with fail
      go_ret
      exact ⟨by rw [fin.out]; rfl, rfl⟩
  · have hI := fun W => contains_low b hb W
    have h1 := index_sign9 b
    have fin := Lib.hid (show signD b = decide (0 ≤ Lib.indexByte signs9.data.toList b) by
      rw [h1, Bool.eq_iff_iff]
      unfold signD okB
      simp
      omega)
    have hc : b.toNat < 48 ∨ (57 < b.toNat ∧ b.toNat < 65) ∨ (90 < b.toNat ∧ b.toNat < 97) ∨ 122 < b.toNat := by omega
    generalize Lib.indexByte signs9.data.toList b = ix at *
    clear h1 c3 hb
    rcases hc with hc | ⟨hc, hd⟩ | ⟨hc, hd⟩ | hc
    all_goals
      go_enter Tryz.func69, Tryz.ntmps69
      go_wp2_with (go_at_call 82; with_reducible refine (hI _).mono ?_; rintro e w1 ⟨rfl, rfl⟩)
      go_ret
      exact ⟨by rw [fin.out]; rfl, rfl⟩
set_option maxRecDepth 100000 in
theorem mayRune_high (r : Int) (h0 : 128 ≤ r) (w : World) :
    Calls Tryz.prog 69 #[.int .i32 r] w fun e w' => e = .returned (.bool false) ∧ Kept (fun _ => False) w w' := by
  have hI := fun W => contains_high r h0 W
  go_enter Tryz.func69, Tryz.ntmps69
  go_wp2_with (go_at_call 82; with_reducible refine (hI _).mono ?_; rintro e w1 ⟨rfl, hk⟩)
  go_ret
  exact ⟨rfl, hk⟩
end Go.Proofs.YtoebokgpdkklmaaGreatDoor

namespace Go.Proofs.YtoebokgpdkklmaaGreatDoor
open Go.RowKit Ver Evr Dep

def nn0 : ByteArray := ⟨#[97, 110, 100]⟩
def nn1 : ByteArray := ⟨#[111, 114]⟩
def nn2 : ByteArray := ⟨#[105, 102]⟩
def nn3 : ByteArray := ⟨#[101, 108, 115, 101]⟩
def nn4 : ByteArray := ⟨#[117, 110, 108, 101, 115, 115]⟩
def nn5 : ByteArray := ⟨#[119, 105, 116, 104]⟩
def nn6 : ByteArray := ⟨#[119, 105, 116, 104, 111, 117, 116]⟩
/-- The array of words that are no names lies as the program's text lays it. -/
structure NotW (w : World) : Prop where
  old : 1 < w.heap.size
  n0 : w.cell? ⟨1, 0, none⟩ = some (.string nn0)
  n1 : w.cell? ⟨1, 1, none⟩ = some (.string nn1)
  n2 : w.cell? ⟨1, 2, none⟩ = some (.string nn2)
  n3 : w.cell? ⟨1, 3, none⟩ = some (.string nn3)
  n4 : w.cell? ⟨1, 4, none⟩ = some (.string nn4)
  n5 : w.cell? ⟨1, 5, none⟩ = some (.string nn5)
  n6 : w.cell? ⟨1, 6, none⟩ = some (.string nn6)
theorem NotW.kept {w w' : World} (h : NotW w) (k : Kept (fun _ => False) w w') : NotW w' := by
  have hlt : ∀ i : Nat, (⟨1, i, none⟩ : Addr).block < w.heap.size := fun _ => h.old
  exact ⟨Nat.lt_of_lt_of_le h.old k.size, (k.cell (hlt 0) (fun h => h)).trans h.n0, (k.cell (hlt 1) (fun h => h)).trans h.n1, (k.cell (hlt 2) (fun h => h)).trans h.n2, (k.cell (hlt 3) (fun h => h)).trans h.n3, (k.cell (hlt 4) (fun h => h)).trans h.n4, (k.cell (hlt 5) (fun h => h)).trans h.n5, (k.cell (hlt 6) (fun h => h)).trans h.n6⟩
theorem bytes_iff {s t : ByteArray} : (s.toList == t.toList) = decide (s = t) := by
  rw [ByteArray.toList_eq, ByteArray.toList_eq, Bool.eq_iff_iff]
  simp only [beq_iff_eq, decide_eq_true_eq]
  exact ⟨fun h => ByteArray.ext (Array.ext' h), fun h => by rw [h]⟩
theorem no_name (s : ByteArray) : noNames.contains s.data.toList = ((s.toList == nn0.toList) || (s.toList == nn1.toList) || (s.toList == nn2.toList) || (s.toList == nn3.toList) || (s.toList == nn4.toList) || (s.toList == nn5.toList) || (s.toList == nn6.toList)) := by
  simp only [ByteArray.toList_eq, noNames, List.contains_cons, List.contains_nil, Bool.or_false, Bool.or_assoc]
  rfl
theorem take_sign {s : List UInt8} {i : Nat} {c : UInt8} (h : (s.take i).all signD = true) (hc : s[i]? = some c) (hok : signD c = true) : (s.take (i + 1)).all signD = true := by
  rw [List.take_add_one, hc, List.all_append, h]
  simp [hok]
theorem name_not {s : List UInt8} {i : Nat} {c : UInt8} (hc : s[i]? = some c) (hok : signD c = false) : nameD s = false := by
  unfold nameD
  have : s.all signD = false := by
    rw [Bool.eq_false_iff]
    intro h
    have := List.all_eq_true.1 h c (List.mem_of_getElem? hc)
    rw [hok] at this
    cases this
  rw [this]
  simp
theorem name_empty : nameD [] = false := rfl
theorem name_long {s : List UInt8} (h : 64 < s.length) : nameD s = false := by
  unfold nameD
  rw [show decide (s.length ≤ 64) = false by simp; omega]
  simp
theorem name_word {s : List UInt8} (h : noNames.contains s = true) : nameD s = false := by
  unfold nameD
  rw [h]
  simp
theorem name_all {s : List UInt8} (h1 : 1 ≤ s.length) (h2 : s.length ≤ 64) (h : s.all signD = true) (hw : noNames.contains s = false) : nameD s = true := by
  unfold nameD
  rw [h, hw]
  simp [h1, h2]

set_option maxRecDepth 100000 in
set_option maxHeartbeats 2000000 in
theorem name_walk (s : ByteArray) (w : World) (hW : NotW w) :
    Calls Tryz.prog 50 #[.string s] w fun e w' => e = .returned (.bool (nameD s.data.toList)) ∧ Kept (fun _ => False) w w' := by
  by_cases h0 : s = ⟨#[]⟩
  · subst h0
    go_enter Tryz.func50, Tryz.ntmps50
    go_wp2_with fail
    go_ret
    exact ⟨rfl, Kept.refl _ _⟩
  · obtain ⟨b1, b2⟩ := text_ne h0
    have hsl : s.data.toList.length = s.size := rfl
    have hs1 : 1 ≤ s.size := by
      rcases Nat.eq_zero_or_pos s.size with h | h
      · exact absurd (empty_text.1 (List.eq_nil_of_length_eq_zero (by rw [hsl]; exact h))) h0
      · exact h
    clear h0
    by_cases h1 : 64 < s.size
    · have HN := Lib.hid (@name_long s.data.toList (by rw [hsl]; exact h1))
      have h1' : (64 : Int) < (s.size : Int) := by omega
      clear hsl
      go_enter Tryz.func50, Tryz.ntmps50
      go_wp2_with fail
      go_ret
      exact ⟨by rw [HN.out]; rfl, Kept.refl _ _⟩
    · have h1' : ¬ (64 : Int) < (s.size : Int) := by omega
      have HY := Lib.hid (fun h hw => @name_all s.data.toList (by rw [hsl]; exact hs1) (by rw [hsl]; omega) h hw)
      have HC := Lib.hid (no_name s)
      have HSL := Lib.hid hsl
      have HNW := Lib.hid hW
      clear hsl hW
      go_enter Tryz.func50, Tryz.ntmps50
      go_wp2_with fail
      go_loopw [] (fun wr => ∃ pos : Nat, wr = w.iter s pos ∧ pos ≤ s.size ∧ Hid ((s.data.toList.take pos).all signD = true)) (fun wr => s.size - wr.iterPos w.heap.size)
      case atStart => exact ⟨0, rfl, Nat.zero_le _, Lib.hid rfl⟩
      case round =>
        obtain ⟨pos, rfl, hp, HA⟩ := hrel
        by_cases hlt : pos < s.size
        · obtain ⟨c, hc⟩ : ∃ c, c = s[pos] := ⟨_, rfl⟩
          have HCL := Lib.hid (char_at hlt hc)
          by_cases hlow : c.toNat < 128
          · have hnx : ∀ ty, (Instr.next (.pointer (some ⟨w.heap.size, 0, none⟩)) true ty).run Tryz.prog (w.iter s pos) = .ok (.tuple #[.bool true, .int .i64 pos, .int .i32 (c.toNat : Int)]) (w.iter s (pos + 1)) := fun ty => by
              rw [hc]
              exact run_next_ascii w s pos ty hlt (by rw [← hc]; exact hlow)
            have hM := fun W => mayRune_low c hlow W
            clear hc
            cases hok : signD c with
            | true =>
              rw [hok] at hM
              have HOK := Lib.hid hok
              clear hok hlow
              go_wp2_with (first | (go_at_call 69; with_reducible refine (hM _).mono ?_; rintro e w1 ⟨rfl, rfl⟩) | fail)
              go_roundw
              case rel => exact ⟨pos + 1, rfl, by omega, Lib.hid (take_sign HA.out HCL.out HOK.out)⟩
              case measure => simp; omega
            | false =>
              rw [hok] at hM
              have HN := Lib.hid (name_not HCL.out hok)
              clear hok hlow
              go_wp2_with (first | (go_at_call 69; with_reducible refine (hM _).mono ?_; rintro e w1 ⟨rfl, rfl⟩) | fail)
              go_ret
              exact ⟨by rw [HN.out]; rfl, (Kept.refl _ _).alloc _⟩
          · have hhi := decode_high s pos hlt (by rw [← hc]; omega)
            have hnx : ∀ ty, (Instr.next (.pointer (some ⟨w.heap.size, 0, none⟩)) true ty).run Tryz.prog (w.iter s pos) = .ok (.tuple #[.bool true, .int .i64 pos, .int .i32 (Utf8.decode s pos).1]) (w.iter s (pos + (Utf8.decode s pos).2)) := fun ty => run_next_any w s pos ty hlt
            have HN := Lib.hid (name_not HCL.out (by unfold signD okB; simp; omega))
            generalize (Utf8.decode s pos).1 = R at hnx hhi
            generalize (Utf8.decode s pos).2 = K at hnx hhi
            have hM := fun W => mayRune_high (R : Int) (by omega) W
            clear hc hlow hhi
            go_wp2_with (first | (go_at_call 69; with_reducible refine (hM _).mono ?_; rintro e w1 ⟨rfl, hk1⟩) | fail)
            go_ret
            exact ⟨by rw [HN.out]; rfl, ((Kept.refl _ _).alloc _).trans hk1 (fun _ _ h => h)⟩
        · have hnx : ∀ ty, (Instr.next (.pointer (some ⟨w.heap.size, 0, none⟩)) true ty).run Tryz.prog (w.iter s pos) = .ok (.tuple #[.bool false]) (w.iter s pos) := fun ty => run_next_end w s pos ty hlt
          obtain rfl : pos = s.size := by omega
          have hall : s.data.toList.all signD = true := by have := HA.out; rwa [List.take_of_length_le (by rw [HSL.out]; exact Nat.le_refl _)] at this
          have HK := Lib.hid ((Kept.refl (fun _ => False) w).alloc (.stringIter s s.size))
          have hN2 := HNW.out.kept HK.out
          have HF : Hid (nameD s.data.toList = !((s.toList == nn0.toList) || (s.toList == nn1.toList) || (s.toList == nn2.toList) || (s.toList == nn3.toList) || (s.toList == nn4.toList) || (s.toList == nn5.toList) || (s.toList == nn6.toList))) := Lib.hid (by
            rw [← HC.out]
            cases hw : noNames.contains s.data.toList with
            | true => exact name_word hw
            | false => exact HY.out hall hw)
          have c0 : (w.iter s s.size).cell? ⟨1, 0, none⟩ = some (.string nn0) := hN2.n0
          have c1 : (w.iter s s.size).cell? ⟨1, 1, none⟩ = some (.string nn1) := hN2.n1
          have c2 : (w.iter s s.size).cell? ⟨1, 2, none⟩ = some (.string nn2) := hN2.n2
          have c3 : (w.iter s s.size).cell? ⟨1, 3, none⟩ = some (.string nn3) := hN2.n3
          have c4 : (w.iter s s.size).cell? ⟨1, 4, none⟩ = some (.string nn4) := hN2.n4
          have c5 : (w.iter s s.size).cell? ⟨1, 5, none⟩ = some (.string nn5) := hN2.n5
          have c6 : (w.iter s s.size).cell? ⟨1, 6, none⟩ = some (.string nn6) := hN2.n6
          have hX0 : ∀ W, (Instr.index 102 (.agg #[.string nn0, .string nn1, .string nn2, .string nn3, .string nn4, .string nn5, .string nn6]) (.int .i64 0)).run Tryz.prog W = .ok (.string nn0) W := fun W => by kernel_rfl
          have hX1 : ∀ W, (Instr.index 102 (.agg #[.string nn0, .string nn1, .string nn2, .string nn3, .string nn4, .string nn5, .string nn6]) (.int .i64 1)).run Tryz.prog W = .ok (.string nn1) W := fun W => by kernel_rfl
          have hX2 : ∀ W, (Instr.index 102 (.agg #[.string nn0, .string nn1, .string nn2, .string nn3, .string nn4, .string nn5, .string nn6]) (.int .i64 2)).run Tryz.prog W = .ok (.string nn2) W := fun W => by kernel_rfl
          have hX3 : ∀ W, (Instr.index 102 (.agg #[.string nn0, .string nn1, .string nn2, .string nn3, .string nn4, .string nn5, .string nn6]) (.int .i64 3)).run Tryz.prog W = .ok (.string nn3) W := fun W => by kernel_rfl
          have hX4 : ∀ W, (Instr.index 102 (.agg #[.string nn0, .string nn1, .string nn2, .string nn3, .string nn4, .string nn5, .string nn6]) (.int .i64 4)).run Tryz.prog W = .ok (.string nn4) W := fun W => by kernel_rfl
          have hX5 : ∀ W, (Instr.index 102 (.agg #[.string nn0, .string nn1, .string nn2, .string nn3, .string nn4, .string nn5, .string nn6]) (.int .i64 5)).run Tryz.prog W = .ok (.string nn5) W := fun W => by kernel_rfl
          have hX6 : ∀ W, (Instr.index 102 (.agg #[.string nn0, .string nn1, .string nn2, .string nn3, .string nn4, .string nn5, .string nn6]) (.int .i64 6)).run Tryz.prog W = .ok (.string nn6) W := fun W => by kernel_rfl
          clear hall hN2 HY HC HA
          generalize hq0 : (s.toList == nn0.toList) = q0 at HF
          generalize hq1 : (s.toList == nn1.toList) = q1 at HF
          generalize hq2 : (s.toList == nn2.toList) = q2 at HF
          generalize hq3 : (s.toList == nn3.toList) = q3 at HF
          generalize hq4 : (s.toList == nn4.toList) = q4 at HF
          generalize hq5 : (s.toList == nn5.toList) = q5 at HF
          generalize hq6 : (s.toList == nn6.toList) = q6 at HF
          cases q0 with
          | true =>
            go_wp2_with fail
            refine wp_loop_rounds 8 ?_
            rw [rounds_succ]
            go_wp2_with fail
            go_ret
            exact ⟨by rw [HF.out]; rfl, HK.out⟩
          | false =>
            cases q1 with
            | true =>
              go_wp2_with fail
              refine wp_loop_rounds 8 ?_
              rw [rounds_succ]
              go_wp2_with fail
              rw [rounds_succ]
              go_wp2_with fail
              go_ret
              exact ⟨by rw [HF.out]; rfl, HK.out⟩
            | false =>
              cases q2 with
              | true =>
                go_wp2_with fail
                refine wp_loop_rounds 8 ?_
                rw [rounds_succ]
                go_wp2_with fail
                rw [rounds_succ]
                go_wp2_with fail
                rw [rounds_succ]
                go_wp2_with fail
                go_ret
                exact ⟨by rw [HF.out]; rfl, HK.out⟩
              | false =>
                cases q3 with
                | true =>
                  go_wp2_with fail
                  refine wp_loop_rounds 8 ?_
                  rw [rounds_succ]
                  go_wp2_with fail
                  rw [rounds_succ]
                  go_wp2_with fail
                  rw [rounds_succ]
                  go_wp2_with fail
                  rw [rounds_succ]
                  go_wp2_with fail
                  go_ret
                  exact ⟨by rw [HF.out]; rfl, HK.out⟩
                | false =>
                  cases q4 with
                  | true =>
                    go_wp2_with fail
                    refine wp_loop_rounds 8 ?_
                    rw [rounds_succ]
                    go_wp2_with fail
                    rw [rounds_succ]
                    go_wp2_with fail
                    rw [rounds_succ]
                    go_wp2_with fail
                    rw [rounds_succ]
                    go_wp2_with fail
                    rw [rounds_succ]
                    go_wp2_with fail
                    go_ret
                    exact ⟨by rw [HF.out]; rfl, HK.out⟩
                  | false =>
                    cases q5 with
                    | true =>
                      go_wp2_with fail
                      refine wp_loop_rounds 8 ?_
                      rw [rounds_succ]
                      go_wp2_with fail
                      rw [rounds_succ]
                      go_wp2_with fail
                      rw [rounds_succ]
                      go_wp2_with fail
                      rw [rounds_succ]
                      go_wp2_with fail
                      rw [rounds_succ]
                      go_wp2_with fail
                      rw [rounds_succ]
                      go_wp2_with fail
                      go_ret
                      exact ⟨by rw [HF.out]; rfl, HK.out⟩
                    | false =>
                      cases q6 with
                      | true =>
                        go_wp2_with fail
                        refine wp_loop_rounds 8 ?_
                        rw [rounds_succ]
                        go_wp2_with fail
                        rw [rounds_succ]
                        go_wp2_with fail
                        rw [rounds_succ]
                        go_wp2_with fail
                        rw [rounds_succ]
                        go_wp2_with fail
                        rw [rounds_succ]
                        go_wp2_with fail
                        rw [rounds_succ]
                        go_wp2_with fail
                        rw [rounds_succ]
                        go_wp2_with fail
                        go_ret
                        exact ⟨by rw [HF.out]; rfl, HK.out⟩
                      | false =>
                        go_wp2_with fail
                        refine wp_loop_rounds 8 ?_
                        rw [rounds_succ]
                        go_wp2_with fail
                        rw [rounds_succ]
                        go_wp2_with fail
                        rw [rounds_succ]
                        go_wp2_with fail
                        rw [rounds_succ]
                        go_wp2_with fail
                        rw [rounds_succ]
                        go_wp2_with fail
                        rw [rounds_succ]
                        go_wp2_with fail
                        rw [rounds_succ]
                        go_wp2_with fail
                        rw [rounds_succ]
                        go_wp2_with fail
                        go_ret
                        exact ⟨by rw [HF.out]; rfl, HK.out⟩

theorem hasPrefix_slash (s : ByteArray) : Lib.hasPrefix s.data.toList [47] = (s.data.toList.head? == some 47) := by
  unfold Lib.hasPrefix
  cases s.data.toList with
  | nil => rfl
  | cons b l =>
    show (47 == b && [].isPrefixOf l) = (some b == some 47)
    rw [Bool.eq_iff_iff]
    simp
    exact eq_comm
theorem file_walk (s : ByteArray) (w : World) (hW : NotW w) :
    Calls Tryz.prog 52 #[.string s] w fun e w' => e = .returned (.bool (fileD s.data.toList)) ∧ Kept (fun _ => False) w w' := by
  have hN := name_walk s w hW
  have hP : Calls Tryz.prog 70 #[.string s, .string ⟨#[47]⟩] w fun e w' => e = .returned (.bool (s.data.toList.head? == some 47)) ∧ w' = w := by
    have := sh_strings_HasPrefix s ⟨#[47]⟩ w
    rw [show (⟨#[47]⟩ : ByteArray).data.toList = [47] from rfl, hasPrefix_slash] at this
    exact this
  have HF := Lib.hid (show fileD s.data.toList = (nameD s.data.toList && s.data.toList.head? == some 47) from rfl)
  generalize nameD s.data.toList = x at *
  generalize (s.data.toList.head? == some 47) = y at *
  cases y
  · go_enter Tryz.func52, Tryz.ntmps52
    go_wp2_with (go_at_call 70; with_reducible refine hP.mono ?_; rintro e w1 ⟨rfl, rfl⟩)
    go_ret
    exact ⟨by rw [HF.out]; cases x <;> rfl, Kept.refl _ _⟩
  · go_enter Tryz.func52, Tryz.ntmps52
    go_wp2_with (first
      | (go_at_call 70; with_reducible refine hP.mono ?_; rintro e w1 ⟨rfl, rfl⟩)
      | (go_at_call 50; with_reducible refine hN.mono ?_; rintro e w1 ⟨rfl, hk⟩))
    go_ret
    exact ⟨by rw [HF.out]; cases x <;> rfl, hk⟩
end Go.Proofs.YtoebokgpdkklmaaGreatDoor

namespace Go.Proofs.YtoebokgpdkklmaaGreatDoor

/-- Places (at, how many) that lie one behind the other, from a to z. -/
def cutsB : List (Nat × Nat) → Nat → Nat → Bool
  | [], a, z => a == z
  | (o, s) :: r, a, z => o == a && cutsB r (a + s) z
theorem cuts_join (cs : List Value) : ∀ (l : List (Nat × Nat)) (rs : List (List Value)) (a : Nat), rs.length = l.length → (∀ (i : Nat) (x : Nat × Nat) (r : List Value), l[i]? = some x → rs[i]? = some r → (cs.drop x.1).take x.2 = r) → cutsB l a cs.length = true → cs.drop a = rs.flatten
  | [], rs, a, hl, _, hc => by
    obtain rfl : rs = [] := List.eq_nil_of_length_eq_zero hl
    have : a = cs.length := by simpa [cutsB] using hc
    subst this
    simp
  | (o, s) :: l, [], a, hl, _, _ => by simp at hl
  | (o, s) :: l, r :: rs, a, hl, hx, hc => by
    simp only [cutsB, Bool.and_eq_true, beq_iff_eq] at hc
    obtain ⟨rfl, hc⟩ := hc
    have h0 : (cs.drop o).take s = r := hx 0 (o, s) r rfl rfl
    have h1 := cuts_join cs l rs (o + s) (by simpa using hl) (fun i x r hi hr => hx (i + 1) x r (by simpa using hi) (by simpa using hr)) hc
    rw [List.flatten_cons, ← h1, ← h0, ← List.drop_drop, List.take_append_drop]

/-- The cells of a table, off its reading. -/
def flatC {H : Type} (P : Program) : Nat → TypeId → DataW H → Option (List Value)
  | 0, _, _ => none
  | n + 1, t, d =>
    match P.underlying t, d with
    | some .bool, .lit (.bool b) => some [.bool b]
    | some (.int k), .lit (.int k' z) => if k = k' then some [.int k z] else none
    | some .string, .lit (.string l) => some [.string ⟨l.toArray⟩]
    | some (.array m e), .agg ds => if ds.length = m ∧ cutsB ((List.range m).map fun i => (i * P.cellsOf e, P.cellsOf e)) 0 (P.cellsOf t) = true then (ds.mapM (flatC P n e)).map List.flatten else none
    | some (.struct fs), .agg ds => if ds.length = fs.size ∧ cutsB (fs.toList.map fun f => (f.offset, P.cellsOf f.type)) 0 (P.cellsOf t) = true then ((fs.toList.zip ds).mapM fun x => flatC P n x.1.type x.2).map List.flatten else none
    | _, _ => none

section
variable {H : Type} {enc : TypeId × Value → H} {P : Program} {w : World} {base : Nat} {sp : Nat → Bool} {held : Bool}
theorem flat_cells : ∀ (n : Nat) (t : TypeId) (d : DataW H) (vs : List Value) (fuel : Nat) (cs : List Value) (p : List MemPlace), flatC P n t d = some vs → DataW.trod enc P w base sp held fuel t cs = some (d, p) → cs = vs
  | 0, t, d, vs, fuel, cs, p, h, _ => by simp [flatC] at h
  | n + 1, t, d, vs, fuel, cs, p, h, ht => by
    unfold flatC at h
    split at h
    · rename_i hu
      injection h with h
      subst h
      cases fuel with
      | zero => simp [DataW.trod] at ht
      | succ m =>
        unfold DataW.trod at ht
        rw [hu] at ht
        split at ht <;> simp_all
    · rename_i k k' z hu
      split at h
      · rename_i hk
        subst hk
        injection h with h
        subst h
        obtain ⟨z', e1, e2, _⟩ := DataW.trod_int hu ht
        injection e2 with e2 _
        injection e2 with e2
        injection e2 with _ e2
        subst e2
        exact e1
      · cases h
    · rename_i l hu
      injection h with h
      subst h
      obtain ⟨s, e1, e2, _⟩ := DataW.trod_string hu ht
      injection e2 with e2 _
      injection e2 with e2
      injection e2 with e2
      subst e2
      rw [e1]
    · rename_i m e ds hu
      split at h
      · rename_i hc
        obtain ⟨hl, hc⟩ := hc
        obtain ⟨rs, hrs, rfl⟩ := Option.map_eq_some_iff.1 h
        obtain ⟨xs, f, rfl, hx, hcs, hxl, hall⟩ := DataW.trod_array hu ht
        injection hx with hx _
        injection hx with hx
        subst hx
        have hrl := Lib.mapM_length hrs
        have := cuts_join cs ((List.range m).map fun i => (i * P.cellsOf e, P.cellsOf e)) rs 0 (by simp at hrl ⊢; omega) (fun i x r hi hr => by
          obtain ⟨j, hj, rfl⟩ : ∃ j, (List.range m)[i]? = some j ∧ (j * P.cellsOf e, P.cellsOf e) = x := by simpa using hi
          obtain ⟨him, hj⟩ := List.getElem?_eq_some_iff.1 hj
          simp at him hj
          subst hj
          have hxi := hall i him
          obtain ⟨y, hy⟩ : ∃ y, xs[i]? = some y := ⟨_, List.getElem?_eq_getElem (by omega)⟩
          rw [hy] at hxi
          obtain ⟨b, hb, hf⟩ := Lib.mapM_at hrs i y.1 (by simp [hy])
          obtain rfl := Option.some.inj (hr.symm.trans hb)
          exact flat_cells n e y.1 _ f _ y.2 hf hxi) (by rw [hcs]; exact hc)
        simpa using this
      · cases h
    · rename_i fs ds hu
      split at h
      · rename_i hc
        obtain ⟨hl, hc⟩ := hc
        obtain ⟨rs, hrs, rfl⟩ := Option.map_eq_some_iff.1 h
        obtain ⟨xs, f, rfl, hx, hcs, hxl, hall⟩ := DataW.trod_struct hu ht
        injection hx with hx _
        injection hx with hx
        subst hx
        have hrl := Lib.mapM_length hrs
        have hxl' : xs.length = fs.size := by simpa using hl
        have := cuts_join cs (fs.toList.map fun f => (f.offset, P.cellsOf f.type)) rs 0 (by simp at hrl ⊢; omega) (fun i x r hi hr => by
          obtain ⟨g, hg, rfl⟩ : ∃ g, fs.toList[i]? = some g ∧ (g.offset, P.cellsOf g.type) = x := by simpa using hi
          have hxi := hall i g (by simpa using hg)
          obtain ⟨him, _⟩ := List.getElem?_eq_some_iff.1 hg
          simp at him
          obtain ⟨y, hy⟩ : ∃ y, xs[i]? = some y := ⟨_, List.getElem?_eq_getElem (by omega)⟩
          rw [hy] at hxi
          obtain ⟨b, hb, hf⟩ := Lib.mapM_at hrs i (g, y.1) (List.getElem?_zip_eq_some.2 ⟨hg, by simp [hy]⟩)
          obtain rfl := Option.some.inj (hr.symm.trans hb)
          exact flat_cells n g.type y.1 _ f _ y.2 hf hxi) (by rw [hcs]; exact hc)
        simpa using this
      · cases h
    · cases h
end

/-- What a row lists of one variable, as the variable's cells. -/
theorem laid_cells {P : Program} {W : World} {name : String} {d : DataW Unit} {rest : List (String × DataW Unit)} {g : Nat} {t : TypeId} {vs : List Value} (n : Nat)
    (hg : P.globalNamed name = some g) (hty : (P.globals[g]?).map (·.type) = some t) (hf : flatC P n t d = some vs) (h : laidMet P ((name, d) :: rest) W) : ∀ i, W.cell? ⟨g, i, none⟩ = vs[i]? := by
  obtain ⟨ps, ⟨g', t', cs, fuel, p, q, hg', ht', hvar, hd, _, _⟩, _⟩ := h
  obtain rfl := Option.some.inj (hg.symm.trans hg')
  obtain rfl := Option.some.inj (hty.symm.trans ht')
  intro i
  rw [World.var?_cell hg hvar i, ← flat_cells n t d vs fuel cs.toList p hf hd]
  simp
end Go.Proofs.YtoebokgpdkklmaaGreatDoor

namespace Go.Proofs.YtoebokgpdkklmaaGreatDoor
open Go.ChangeShapes Go.WideShapes Go.ChangeAt Go.RowKit

theorem es_type : (Tryz.prog.globals[6]?).map (·.type) = some 68 := by kernel_rfl
theorem er_type : (Tryz.prog.globals[7]?).map (·.type) = some 68 := by kernel_rfl
theorem star_name : "*" ++ "errors.errorString" = "*errors.errorString" := by decide
theorem es_row (u : TypeId) (h : Tryz.prog.typeName? 3 u = some "*errors.errorString") : u = 158 :=
  typeName_ptr_named (nm := "errors.errorString") (by rw [star_name]; kernel_rfl) (by kernel_rfl) (by decide) u (by rw [star_name]; exact h)
theorem es_cells : Tryz.prog.cellsOf 160 = 1 := by kernel_rfl
theorem st_cells : Tryz.prog.cellsOf 9 = 1 := by kernel_rfl
set_option maxRecDepth 100000 in
theorem libW_of6 {W : World} {L : List (String × DataW Unit)} (h : laidMetH Tryz.prog L W) (hq : laidMetH Tryz.prog L W = laidMet Tryz.prog L W)
    (p1 : (L.filter fun x => x.1 == "internal/strconv.uint64pow10") = [("internal/strconv.uint64pow10", Lib.tabData .u64 Lib.pow10Tab)])
    (p2 : (L.filter fun x => x.1 == "strconv.ErrSyntax") = [("strconv.ErrSyntax", Rows.laid_strconv_ErrSyntax)])
    (p3 : (L.filter fun x => x.1 == "strconv.ErrRange") = [("strconv.ErrRange", Rows.laid_strconv_ErrRange)]) : LibW W := by
  rw [hq] at h
  have h1 := h.filter (fun x => x.1 == "internal/strconv.uint64pow10")
  have h2 := h.filter (fun x => x.1 == "strconv.ErrSyntax")
  have h3 := h.filter (fun x => x.1 == "strconv.ErrRange")
  rw [p1] at h1
  rw [p2] at h2
  rw [p3] at h3
  obtain ⟨a1, _, v1, _⟩ := laid_sentinel h2 (show Tryz.prog.globalNamed "strconv.ErrSyntax" = some 6 by kernel_rfl) es_type Tryz.underlying68 es_row Tryz.underlying158 Tryz.underlying160 rfl rfl Tryz.underlying9 es_cells st_cells
  obtain ⟨a2, _, v2, _⟩ := laid_sentinel h3 (show Tryz.prog.globalNamed "strconv.ErrRange" = some 7 by kernel_rfl) er_type Tryz.underlying68 es_row Tryz.underlying158 Tryz.underlying160 rfl rfl Tryz.underlying9 es_cells st_cells
  exact ⟨Lib.tabIs_of_head (show Tryz.prog.globalNamed "internal/strconv.uint64pow10" = some 2 by kernel_rfl) (show (Tryz.prog.globals[2]?).map (·.type) = some 134 by kernel_rfl) Tryz.underlying134 Tryz.underlying124 (by kernel_rfl) (by kernel_rfl) h1, ⟨_, _, v1⟩, ⟨_, _, v2⟩⟩
theorem nn_cells : flatC Tryz.prog 3 102 (Rows.laid_chandlery_dep_notNames : DataW Unit) = some [.string nn0, .string nn1, .string nn2, .string nn3, .string nn4, .string nn5, .string nn6] := by kernel_rfl
theorem notW_of {W : World} {L : List (String × DataW Unit)} (h : laidMetH Tryz.prog L W) (hp : (L.filter fun x => x.1 == "chandlery/dep.notNames") = [("chandlery/dep.notNames", Rows.laid_chandlery_dep_notNames)]) (hq : laidMetH Tryz.prog L W = laidMet Tryz.prog L W) : NotW W := by
  rw [hq] at h
  have h1 := h.filter (fun x => x.1 == "chandlery/dep.notNames")
  rw [hp] at h1
  have hc := laid_cells 3 (show Tryz.prog.globalNamed "chandlery/dep.notNames" = some 1 by kernel_rfl) (show (Tryz.prog.globals[1]?).map (·.type) = some 102 by kernel_rfl) nn_cells h1
  exact ⟨World.block_lt_of_cell? W _ (hc 0), hc 0, hc 1, hc 2, hc 3, hc 4, hc 5, hc 6⟩
end Go.Proofs.YtoebokgpdkklmaaGreatDoor
