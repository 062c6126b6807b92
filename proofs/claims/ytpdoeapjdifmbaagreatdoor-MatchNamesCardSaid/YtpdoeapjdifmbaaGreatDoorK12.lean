/-
  The walks over the program's own text of layer 6: which names may be, and which are a file's. Conditions: the array of words that are no names lies as the program's text lays it. The walks over the document's answer for layer 6: which names may be. The walks over the document's answers for layer 4: which Ops may be, an Op's text. The walks over the program's own text of layer 3: which bytes, texts, EVRs may be. What the walks ask of the program's May, Show and Parse of EVRs, and what these answer. Conditions: as each theorem states.
-/
import Derived.Test.YtpdoeapjdifmbaaGreatDoorK11
import Derived.Test.YtpdoeapjdifmbaaGreatDoorK02
import Derived.Test.YtpdoeapjdifmbaaGreatDoorK01
import Derived.Handy
import Derived.Lib.Hide
import Derived.LoopN
import Derived.Test.YtpdoeapjdifmbaaGreatDoorRows
import Derived.WalkKit
namespace Go.Proofs.YtpdoeapjdifmbaaGreatDoor
open Go.RowKit Ver Evr Dep

def nn0 : ByteArray := ⟨#[97, 110, 100]⟩
def nn1 : ByteArray := ⟨#[111, 114]⟩
def nn2 : ByteArray := ⟨#[105, 102]⟩
def nn3 : ByteArray := ⟨#[101, 108, 115, 101]⟩
def nn4 : ByteArray := ⟨#[117, 110, 108, 101, 115, 115]⟩
def nn5 : ByteArray := ⟨#[119, 105, 116, 104]⟩
def nn6 : ByteArray := ⟨#[119, 105, 116, 104, 111, 117, 116]⟩
/-- The array of words that are no names lies as the program's text lays it. -/
structure NotW (w : World) : Prop where
  old : 0 < w.heap.size
  n0 : w.cell? ⟨0, 0, none⟩ = some (.string nn0)
  n1 : w.cell? ⟨0, 1, none⟩ = some (.string nn1)
  n2 : w.cell? ⟨0, 2, none⟩ = some (.string nn2)
  n3 : w.cell? ⟨0, 3, none⟩ = some (.string nn3)
  n4 : w.cell? ⟨0, 4, none⟩ = some (.string nn4)
  n5 : w.cell? ⟨0, 5, none⟩ = some (.string nn5)
  n6 : w.cell? ⟨0, 6, none⟩ = some (.string nn6)
theorem NotW.kept {w w' : World} (h : NotW w) (k : Kept (fun _ => False) w w') : NotW w' := by
  have hlt : ∀ i : Nat, (⟨0, i, none⟩ : Addr).block < w.heap.size := fun _ => h.old
  exact ⟨Nat.lt_of_lt_of_le h.old k.size, (k.cell (hlt 0) (fun h => h)).trans h.n0, (k.cell (hlt 1) (fun h => h)).trans h.n1, (k.cell (hlt 2) (fun h => h)).trans h.n2, (k.cell (hlt 3) (fun h => h)).trans h.n3, (k.cell (hlt 4) (fun h => h)).trans h.n4, (k.cell (hlt 5) (fun h => h)).trans h.n5, (k.cell (hlt 6) (fun h => h)).trans h.n6⟩
theorem no_name (s : ByteArray) : noNames.contains s.data.toList = ((s.toList == nn0.toList) || (s.toList == nn1.toList) || (s.toList == nn2.toList) || (s.toList == nn3.toList) || (s.toList == nn4.toList) || (s.toList == nn5.toList) || (s.toList == nn6.toList)) := by
  simp only [ByteArray.toList_eq, noNames, List.contains_cons, List.contains_nil, Bool.or_false, Bool.or_assoc]
  rfl
theorem take_sign {s : List UInt8} {i : Nat} {c : UInt8} (h : (s.take i).all signD = true) (hc : s[i]? = some c) (hok : signD c = true) : (s.take (i + 1)).all signD = true := by
  rw [List.take_add_one, hc, List.all_append, h]
  simp [hok]
theorem name_not {s : List UInt8} {i : Nat} {c : UInt8} (hc : s[i]? = some c) (hok : signD c = false) : nameD s = false := by
  unfold nameD
  have : s.all signD = false := by
    rw [Bool.eq_false_iff]
    intro h
    have := List.all_eq_true.1 h c (List.mem_of_getElem? hc)
    rw [hok] at this
    cases this
  rw [this]
  simp
theorem name_long {s : List UInt8} (h : 64 < s.length) : nameD s = false := by
  unfold nameD
  rw [show decide (s.length ≤ 64) = false by simp; omega]
  simp
theorem name_word {s : List UInt8} (h : noNames.contains s = true) : nameD s = false := by
  unfold nameD
  rw [h]
  simp
theorem name_all {s : List UInt8} (h1 : 1 ≤ s.length) (h2 : s.length ≤ 64) (h : s.all signD = true) (hw : noNames.contains s = false) : nameD s = true := by
  unfold nameD
  rw [h, hw]
  simp [h1, h2]

set_option maxRecDepth 100000 in
set_option maxHeartbeats 2000000 in
theorem name_walk (s : ByteArray) (w : World) (hW : NotW w) :
    Calls Tryz.prog 107 #[.string s] w fun e w' => e = .returned (.bool (nameD s.data.toList)) ∧ Kept (fun _ => False) w w' := by
  by_cases h0 : s = ⟨#[]⟩
  · subst h0
    go_enter Tryz.func107, Tryz.ntmps107
    go_wp2_with fail
    go_ret
    exact ⟨rfl, Kept.refl _ _⟩
  · obtain ⟨b1, b2⟩ := text_ne h0
    have hsl : s.data.toList.length = s.size := rfl
    have hs1 : 1 ≤ s.size := by
      rcases Nat.eq_zero_or_pos s.size with h | h
      · exact absurd (empty_text.1 (List.eq_nil_of_length_eq_zero (by rw [hsl]; exact h))) h0
      · exact h
    clear h0
    by_cases h1 : 64 < s.size
    · have HN := Lib.hid (@name_long s.data.toList (by rw [hsl]; exact h1))
      have h1' : (64 : Int) < (s.size : Int) := by omega
      clear hsl
      go_enter Tryz.func107, Tryz.ntmps107
      go_wp2_with fail
      go_ret
      exact ⟨by rw [HN.out]; rfl, Kept.refl _ _⟩
    · have h1' : ¬ (64 : Int) < (s.size : Int) := by omega
      have HY := Lib.hid (fun h hw => @name_all s.data.toList (by rw [hsl]; exact hs1) (by rw [hsl]; omega) h hw)
      have HC := Lib.hid (no_name s)
      have HSL := Lib.hid hsl
      have HNW := Lib.hid hW
      clear hsl hW
      go_enter Tryz.func107, Tryz.ntmps107
      go_wp2_with fail
      go_loopw [] (fun wr => ∃ pos : Nat, wr = w.iter s pos ∧ pos ≤ s.size ∧ Hid ((s.data.toList.take pos).all signD = true)) (fun wr => s.size - wr.iterPos w.heap.size)
      case atStart => exact ⟨0, rfl, Nat.zero_le _, Lib.hid rfl⟩
      case round =>
        obtain ⟨pos, rfl, hp, HA⟩ := hrel
        by_cases hlt : pos < s.size
        · obtain ⟨c, hc⟩ : ∃ c, c = s[pos] := ⟨_, rfl⟩
          have HCL := Lib.hid (char_at hlt hc)
          by_cases hlow : c.toNat < 128
          · have hnx : ∀ ty, (Instr.next (.pointer (some ⟨w.heap.size, 0, none⟩)) true ty).run Tryz.prog (w.iter s pos) = .ok (.tuple #[.bool true, .int .i64 pos, .int .i32 (c.toNat : Int)]) (w.iter s (pos + 1)) := fun ty => by
              rw [hc]
              exact run_next_ascii w s pos ty hlt (by rw [← hc]; exact hlow)
            have hM := fun W => mayRune_low c hlow W
            clear hc
            cases hok : signD c with
            | true =>
              rw [hok] at hM
              have HOK := Lib.hid hok
              clear hok hlow
              go_wp2_with (first | (go_at_call 138; with_reducible refine (hM _).mono ?_; rintro e w1 ⟨rfl, rfl⟩) | fail)
              go_roundw
              case rel => exact ⟨pos + 1, rfl, by omega, Lib.hid (take_sign HA.out HCL.out HOK.out)⟩
              case measure => simp; omega
            | false =>
              rw [hok] at hM
              have HN := Lib.hid (name_not HCL.out hok)
              clear hok hlow
              go_wp2_with (first | (go_at_call 138; with_reducible refine (hM _).mono ?_; rintro e w1 ⟨rfl, rfl⟩) | fail)
              go_ret
              exact ⟨by rw [HN.out]; rfl, (Kept.refl _ _).alloc _⟩
          · have hhi := decode_high s pos hlt (by rw [← hc]; omega)
            have hnx : ∀ ty, (Instr.next (.pointer (some ⟨w.heap.size, 0, none⟩)) true ty).run Tryz.prog (w.iter s pos) = .ok (.tuple #[.bool true, .int .i64 pos, .int .i32 (Utf8.decode s pos).1]) (w.iter s (pos + (Utf8.decode s pos).2)) := fun ty => run_next_any w s pos ty hlt
            have HN := Lib.hid (name_not HCL.out (by unfold signD okB; simp; omega))
            generalize (Utf8.decode s pos).1 = R at hnx hhi
            generalize (Utf8.decode s pos).2 = K at hnx hhi
            have hM := fun W => mayRune_high (R : Int) (by omega) W
            clear hc hlow hhi
            go_wp2_with (first | (go_at_call 138; with_reducible refine (hM _).mono ?_; rintro e w1 ⟨rfl, hk1⟩) | fail)
            go_ret
            exact ⟨by rw [HN.out]; rfl, ((Kept.refl _ _).alloc _).trans hk1 (fun _ _ h => h)⟩
        · have hnx : ∀ ty, (Instr.next (.pointer (some ⟨w.heap.size, 0, none⟩)) true ty).run Tryz.prog (w.iter s pos) = .ok (.tuple #[.bool false]) (w.iter s pos) := fun ty => run_next_end w s pos ty hlt
          obtain rfl : pos = s.size := by omega
          have hall : s.data.toList.all signD = true := by have := HA.out; rwa [List.take_of_length_le (by rw [HSL.out]; exact Nat.le_refl _)] at this
          have HK := Lib.hid ((Kept.refl (fun _ => False) w).alloc (.stringIter s s.size))
          have hN2 := HNW.out.kept HK.out
          have HF : Hid (nameD s.data.toList = !((s.toList == nn0.toList) || (s.toList == nn1.toList) || (s.toList == nn2.toList) || (s.toList == nn3.toList) || (s.toList == nn4.toList) || (s.toList == nn5.toList) || (s.toList == nn6.toList))) := Lib.hid (by
            rw [← HC.out]
            cases hw : noNames.contains s.data.toList with
            | true => exact name_word hw
            | false => exact HY.out hall hw)
          have c0 : (w.iter s s.size).cell? ⟨0, 0, none⟩ = some (.string nn0) := hN2.n0
          have c1 : (w.iter s s.size).cell? ⟨0, 1, none⟩ = some (.string nn1) := hN2.n1
          have c2 : (w.iter s s.size).cell? ⟨0, 2, none⟩ = some (.string nn2) := hN2.n2
          have c3 : (w.iter s s.size).cell? ⟨0, 3, none⟩ = some (.string nn3) := hN2.n3
          have c4 : (w.iter s s.size).cell? ⟨0, 4, none⟩ = some (.string nn4) := hN2.n4
          have c5 : (w.iter s s.size).cell? ⟨0, 5, none⟩ = some (.string nn5) := hN2.n5
          have c6 : (w.iter s s.size).cell? ⟨0, 6, none⟩ = some (.string nn6) := hN2.n6
          have hX0 : ∀ W, (Instr.index 151 (.agg #[.string nn0, .string nn1, .string nn2, .string nn3, .string nn4, .string nn5, .string nn6]) (.int .i64 0)).run Tryz.prog W = .ok (.string nn0) W := fun W => by kernel_rfl
          have hX1 : ∀ W, (Instr.index 151 (.agg #[.string nn0, .string nn1, .string nn2, .string nn3, .string nn4, .string nn5, .string nn6]) (.int .i64 1)).run Tryz.prog W = .ok (.string nn1) W := fun W => by kernel_rfl
          have hX2 : ∀ W, (Instr.index 151 (.agg #[.string nn0, .string nn1, .string nn2, .string nn3, .string nn4, .string nn5, .string nn6]) (.int .i64 2)).run Tryz.prog W = .ok (.string nn2) W := fun W => by kernel_rfl
          have hX3 : ∀ W, (Instr.index 151 (.agg #[.string nn0, .string nn1, .string nn2, .string nn3, .string nn4, .string nn5, .string nn6]) (.int .i64 3)).run Tryz.prog W = .ok (.string nn3) W := fun W => by kernel_rfl
          have hX4 : ∀ W, (Instr.index 151 (.agg #[.string nn0, .string nn1, .string nn2, .string nn3, .string nn4, .string nn5, .string nn6]) (.int .i64 4)).run Tryz.prog W = .ok (.string nn4) W := fun W => by kernel_rfl
          have hX5 : ∀ W, (Instr.index 151 (.agg #[.string nn0, .string nn1, .string nn2, .string nn3, .string nn4, .string nn5, .string nn6]) (.int .i64 5)).run Tryz.prog W = .ok (.string nn5) W := fun W => by kernel_rfl
          have hX6 : ∀ W, (Instr.index 151 (.agg #[.string nn0, .string nn1, .string nn2, .string nn3, .string nn4, .string nn5, .string nn6]) (.int .i64 6)).run Tryz.prog W = .ok (.string nn6) W := fun W => by kernel_rfl
          clear hall hN2 HY HC HA
          generalize hq0 : (s.toList == nn0.toList) = q0 at HF
          generalize hq1 : (s.toList == nn1.toList) = q1 at HF
          generalize hq2 : (s.toList == nn2.toList) = q2 at HF
          generalize hq3 : (s.toList == nn3.toList) = q3 at HF
          generalize hq4 : (s.toList == nn4.toList) = q4 at HF
          generalize hq5 : (s.toList == nn5.toList) = q5 at HF
          generalize hq6 : (s.toList == nn6.toList) = q6 at HF
          cases q0 with
          | true =>
            go_wp2_with fail
            refine wp_loop_rounds 8 ?_
            rw [rounds_succ]
            go_wp2_with fail
            go_ret
            exact ⟨by rw [HF.out]; rfl, HK.out⟩
          | false =>
            cases q1 with
            | true =>
              go_wp2_with fail
              refine wp_loop_rounds 8 ?_
              rw [rounds_succ]
              go_wp2_with fail
              rw [rounds_succ]
              go_wp2_with fail
              go_ret
              exact ⟨by rw [HF.out]; rfl, HK.out⟩
            | false =>
              cases q2 with
              | true =>
                go_wp2_with fail
                refine wp_loop_rounds 8 ?_
                rw [rounds_succ]
                go_wp2_with fail
                rw [rounds_succ]
                go_wp2_with fail
                rw [rounds_succ]
                go_wp2_with fail
                go_ret
                exact ⟨by rw [HF.out]; rfl, HK.out⟩
              | false =>
                cases q3 with
                | true =>
                  go_wp2_with fail
                  refine wp_loop_rounds 8 ?_
                  rw [rounds_succ]
                  go_wp2_with fail
                  rw [rounds_succ]
                  go_wp2_with fail
                  rw [rounds_succ]
                  go_wp2_with fail
                  rw [rounds_succ]
                  go_wp2_with fail
                  go_ret
                  exact ⟨by rw [HF.out]; rfl, HK.out⟩
                | false =>
                  cases q4 with
                  | true =>
                    go_wp2_with fail
                    refine wp_loop_rounds 8 ?_
                    rw [rounds_succ]
                    go_wp2_with fail
                    rw [rounds_succ]
                    go_wp2_with fail
                    rw [rounds_succ]
                    go_wp2_with fail
                    rw [rounds_succ]
                    go_wp2_with fail
                    rw [rounds_succ]
                    go_wp2_with fail
                    go_ret
                    exact ⟨by rw [HF.out]; rfl, HK.out⟩
                  | false =>
                    cases q5 with
                    | true =>
                      go_wp2_with fail
                      refine wp_loop_rounds 8 ?_
                      rw [rounds_succ]
                      go_wp2_with fail
                      rw [rounds_succ]
                      go_wp2_with fail
                      rw [rounds_succ]
                      go_wp2_with fail
                      rw [rounds_succ]
                      go_wp2_with fail
                      rw [rounds_succ]
                      go_wp2_with fail
                      rw [rounds_succ]
                      go_wp2_with fail
                      go_ret
                      exact ⟨by rw [HF.out]; rfl, HK.out⟩
                    | false =>
                      cases q6 with
                      | true =>
                        go_wp2_with fail
                        refine wp_loop_rounds 8 ?_
                        rw [rounds_succ]
                        go_wp2_with fail
                        rw [rounds_succ]
                        go_wp2_with fail
                        rw [rounds_succ]
                        go_wp2_with fail
                        rw [rounds_succ]
                        go_wp2_with fail
                        rw [rounds_succ]
                        go_wp2_with fail
                        rw [rounds_succ]
                        go_wp2_with fail
                        rw [rounds_succ]
                        go_wp2_with fail
                        go_ret
                        exact ⟨by rw [HF.out]; rfl, HK.out⟩
                      | false =>
                        go_wp2_with fail
                        refine wp_loop_rounds 8 ?_
                        rw [rounds_succ]
                        go_wp2_with fail
                        rw [rounds_succ]
                        go_wp2_with fail
                        rw [rounds_succ]
                        go_wp2_with fail
                        rw [rounds_succ]
                        go_wp2_with fail
                        rw [rounds_succ]
                        go_wp2_with fail
                        rw [rounds_succ]
                        go_wp2_with fail
                        rw [rounds_succ]
                        go_wp2_with fail
                        rw [rounds_succ]
                        go_wp2_with fail
                        go_ret
                        exact ⟨by rw [HF.out]; rfl, HK.out⟩

theorem hasPrefix_slash (s : ByteArray) : Lib.hasPrefix s.data.toList [47] = (s.data.toList.head? == some 47) := by
  unfold Lib.hasPrefix
  cases s.data.toList with
  | nil => rfl
  | cons b l =>
    show (47 == b && [].isPrefixOf l) = (some b == some 47)
    rw [Bool.eq_iff_iff]
    simp
    exact eq_comm
theorem file_walk (s : ByteArray) (w : World) (hW : NotW w) :
    Calls Tryz.prog 108 #[.string s] w fun e w' => e = .returned (.bool (fileD s.data.toList)) ∧ Kept (fun _ => False) w w' := by
  have hN := name_walk s w hW
  have hP : Calls Tryz.prog 139 #[.string s, .string ⟨#[47]⟩] w fun e w' => e = .returned (.bool (s.data.toList.head? == some 47)) ∧ w' = w := by
    have := sh_strings_HasPrefix s ⟨#[47]⟩ w
    rw [show (⟨#[47]⟩ : ByteArray).data.toList = [47] from rfl, hasPrefix_slash] at this
    exact this
  have HF := Lib.hid (show fileD s.data.toList = (nameD s.data.toList && s.data.toList.head? == some 47) from rfl)
  generalize nameD s.data.toList = x at *
  generalize (s.data.toList.head? == some 47) = y at *
  cases y
  · go_enter Tryz.func108, Tryz.ntmps108
    go_wp2_with (go_at_call 139; with_reducible refine hP.mono ?_; rintro e w1 ⟨rfl, rfl⟩)
    go_ret
    exact ⟨by rw [HF.out]; cases x <;> rfl, Kept.refl _ _⟩
  · go_enter Tryz.func108, Tryz.ntmps108
    go_wp2_with (first
      | (go_at_call 139; with_reducible refine hP.mono ?_; rintro e w1 ⟨rfl, rfl⟩)
      | (go_at_call 107; with_reducible refine hN.mono ?_; rintro e w1 ⟨rfl, hk⟩))
    go_ret
    exact ⟨by rw [HF.out]; cases x <;> rfl, hk⟩
end Go.Proofs.YtpdoeapjdifmbaaGreatDoor

namespace Go.Proofs.YtpdoeapjdifmbaaGreatDoor
open Go.RowKit Ver Evr Dep

end Go.Proofs.YtpdoeapjdifmbaaGreatDoor

namespace Go.Proofs.YtpdoeapjdifmbaaGreatDoor
open Go.RowKit Span Evr

end Go.Proofs.YtpdoeapjdifmbaaGreatDoor

namespace Go.Proofs.YtpdoeapjdifmbaaGreatDoor
open Go.RowKit Ver Evr

set_option maxRecDepth 100000 in
theorem mayByte_walk (b : UInt8) (w : World) :
    Calls Tryz.prog 179 #[.int .u8 (b.toNat : Int)] w fun e w' => e = .returned (.bool (okB b)) ∧ w = w' := by
  have hb : b.toNat < 256 := UInt8.toNat_lt b
  by_cases c3 : (97 ≤ b.toNat ∧ b.toNat ≤ 122) ∨ (65 ≤ b.toNat ∧ b.toNat ≤ 90) ∨ (48 ≤ b.toNat ∧ b.toNat ≤ 57)
  · have fin := Lib.hid (show okB b = true by unfold okB; simp; omega)
    rcases c3 with ⟨a1, a2⟩ | ⟨a1, a2⟩ | ⟨a1, a2⟩
    all_goals
      go_enter Tryz.func179, Tryz.ntmps179
      go_wp2_with fail
      go_ret
      exact ⟨by rw [fin.out]; rfl, rfl⟩
  · have hI := fun W => index_sign b W
    have h1 := sign_index b
    have fin := Lib.hid (show okB b = decide (0 ≤ Lib.indexByte [46, 95, 43, 126, 94] b) by
      rw [h1]
      unfold okB
      have e1 : decide (97 ≤ b.toNat ∧ b.toNat ≤ 122) = false := by simp; omega
      have e2 : decide (65 ≤ b.toNat ∧ b.toNat ≤ 90) = false := by simp; omega
      have e3 : decide (48 ≤ b.toNat ∧ b.toNat ≤ 57) = false := by simp; omega
      rw [e1, e2, e3]
      simp)
    have hc : b.toNat < 48 ∨ (57 < b.toNat ∧ b.toNat < 65) ∨ (90 < b.toNat ∧ b.toNat < 97) ∨ 122 < b.toNat := by omega
    generalize Lib.indexByte [46, 95, 43, 126, 94] b = ix at *
    clear h1 c3
    rcases hc with hc | ⟨hc, hd⟩ | ⟨hc, hd⟩ | hc
    all_goals
      go_enter Tryz.func179, Tryz.ntmps179
      go_wp2_with (first | (go_at_call 199; with_reducible refine (hI _).mono ?_; rintro e w1 ⟨rfl, rfl⟩) | fail)
      go_ret
      exact ⟨by rw [fin.out]; rfl, rfl⟩

theorem word_long {s : List UInt8} (h : 64 < s.length) : wordE s = false := by
  unfold wordE
  rw [show decide (s.length ≤ 64) = false by simp; omega]
  simp
theorem word_all {s : List UInt8} (h1 : 1 ≤ s.length) (h2 : s.length ≤ 64) (h : s.all okB = true) : wordE s = true := by
  unfold wordE
  rw [h]
  simp [h1, h2]
set_option maxRecDepth 100000 in
set_option maxHeartbeats 1000000 in
theorem mayText_walk (s : ByteArray) (w : World) :
    Calls Tryz.prog 140 #[.string s] w fun e w' => e = .returned (.bool (wordE s.data.toList)) ∧ w = w' := by
  by_cases h0 : s = ⟨#[]⟩
  · subst h0
    go_enter Tryz.func140, Tryz.ntmps140
    go_wp2_with fail
    go_ret
    exact ⟨rfl, rfl⟩
  · obtain ⟨b1, b2⟩ := text_ne h0
    have hsl : s.data.toList.length = s.size := rfl
    have hs1 : 1 ≤ s.size := by
      rcases Nat.eq_zero_or_pos s.size with h | h
      · exact absurd (empty_text.1 (List.eq_nil_of_length_eq_zero (by rw [hsl]; exact h))) h0
      · exact h
    clear h0
    by_cases h1 : 64 < s.size
    · have HN := Lib.hid (@word_long s.data.toList (by rw [hsl]; exact h1))
      have h1' : (64 : Int) < (s.size : Int) := by omega
      clear hsl
      go_enter Tryz.func140, Tryz.ntmps140
      go_wp2_with fail
      go_ret
      exact ⟨by rw [HN.out]; rfl, rfl⟩
    · have h1' : ¬ (64 : Int) < (s.size : Int) := by omega
      have HY := Lib.hid (fun h => @word_all s.data.toList (by rw [hsl]; exact hs1) (by rw [hsl]; omega) h)
      have HSL := Lib.hid hsl
      clear hsl
      go_enter Tryz.func140, Tryz.ntmps140
      go_wp2_with fail
      go_loop [13] (fun v => ∃ i : Nat, v = .int .i64 (i : Int) ∧ i ≤ s.size ∧ (s.data.toList.take i).all okB = true) (fun v => s.size - (intOf v).toNat)
      case atStart => exact ⟨0, rfl, Nat.zero_le _, rfl⟩
      case round =>
        obtain ⟨i, rfl, hi, ha⟩ := hrel
        have HA := Lib.hid ha
        clear ha
        by_cases hlt : i < s.size
        · obtain ⟨c, hc⟩ : ∃ c, c = s[i] := ⟨_, rfl⟩
          have HCL := Lib.hid (char_at hlt hc)
          have hc' : s[i] = c := hc.symm
          have hM := fun W => mayByte_walk c W
          clear hc
          cases hok : okB c with
          | true =>
            rw [hok] at hM
            have HOK := Lib.hid hok
            clear hok
            go_wp2_with (first | (go_at_call 179; with_reducible refine (hM _).mono ?_; rintro e w1 ⟨rfl, rfl⟩) | fail)
            go_round
            case rel => exact ⟨i + 1, by go_num, by omega, take_ok HA.out HCL.out HOK.out⟩
            case measure => simp [intOf]; omega
          | false =>
            rw [hok] at hM
            have HN := Lib.hid (word_not HCL.out hok)
            clear hok
            go_wp2_with (first | (go_at_call 179; with_reducible refine (hM _).mono ?_; rintro e w1 ⟨rfl, rfl⟩) | fail)
            go_ret
            exact ⟨by rw [HN.out]; rfl, rfl⟩
        · obtain rfl : i = s.size := by omega
          have HF := Lib.hid (HY.out (by have := HA.out; rwa [List.take_of_length_le (by rw [HSL.out]; exact Nat.le_refl _)] at this))
          go_wp2_with fail
          go_ret
          exact ⟨by rw [HF.out]; rfl, rfl⟩

set_option maxRecDepth 100000 in
set_option maxHeartbeats 1000000 in
theorem mayK_walk (n : Int) (v r : ByteArray) (dep : Bool) (w : World) :
    Calls Tryz.prog 109 #[.agg #[.int .i64 n, .string v, .string r], .bool dep] w fun e w' => e = .returned (.bool (mayE (evrE n v r) dep)) ∧ Kept (fun _ => False) w w' := by
  have W1 := fun w => mayText_walk v w
  have W2 := fun w => mayText_walk r w
  by_cases h0 : n < 0
  · have HN := Lib.hid (@may_low n v r dep (.inl h0))
    have g0 : decide (n < 0) = true := by simp [h0]
    clear h0
    go_enter Tryz.func109, Tryz.ntmps109
    go_wp2_with fail
    go_ret
    exact ⟨by rw [HN.out]; rfl, (Kept.refl _ _).alloc _⟩
  · by_cases h1 : 2147483647 < n
    · have HN := Lib.hid (@may_low n v r dep (.inr h1))
      have g0 : decide (n < 0) = false := by simp; omega
      have g1 : decide (2147483647 < n) = true := by simp [h1]
      clear h1 h0
      go_enter Tryz.func109, Tryz.ntmps109
      go_wp2_with fail
      go_ret
      exact ⟨by rw [HN.out]; rfl, (Kept.refl _ _).alloc _⟩
    · have g0 : decide (n < 0) = false := by simp; omega
      have g1 : decide (2147483647 < n) = false := by simp; omega
      by_cases hw : wordE v.data.toList = true
      · by_cases hr0 : r = ⟨#[]⟩
        · subst hr0
          have HN := Lib.hid (@may_dep n v dep (by omega) (by omega) hw)
          rw [hw] at W1
          rw [show wordE (⟨#[]⟩ : ByteArray).data.toList = false from rfl] at W2
          clear h1 h0 hw
          cases dep
          all_goals
            go_enter Tryz.func109, Tryz.ntmps109
            go_wp2_with (first | (go_at_call 140; (first | (with_reducible refine (W1 _).mono ?_) | (with_reducible refine (W2 _).mono ?_)); rintro e w1 ⟨rfl, rfl⟩) | fail)
            go_ret
            exact ⟨by rw [HN.out]; rfl, (Kept.refl _ _).alloc _⟩
        · have HN := Lib.hid (@may_rel n v r dep (by omega) (by omega) hw hr0)
          obtain ⟨b1, b2⟩ := text_ne hr0
          rw [hw] at W1
          clear h1 h0 hw hr0
          generalize wordE r.data.toList = wr at W2 HN
          cases wr
          all_goals
            cases dep
            all_goals
              go_enter Tryz.func109, Tryz.ntmps109
              go_wp2_with (first | (go_at_call 140; (first | (with_reducible refine (W1 _).mono ?_) | (with_reducible refine (W2 _).mono ?_)); rintro e w1 ⟨rfl, rfl⟩) | fail)
              go_ret
              exact ⟨by rw [HN.out]; rfl, (Kept.refl _ _).alloc _⟩
      · have hw' : wordE v.data.toList = false := by simpa using hw
        have HN := Lib.hid (@may_ver n v r dep hw')
        rw [hw'] at W1
        clear h1 h0 hw hw'
        go_enter Tryz.func109, Tryz.ntmps109
        go_wp2_with (first | (go_at_call 140; with_reducible refine (W1 _).mono ?_; rintro e w1 ⟨rfl, rfl⟩) | fail)
        go_ret
        exact ⟨by rw [HN.out]; rfl, (Kept.refl _ _).alloc _⟩
end Go.Proofs.YtpdoeapjdifmbaaGreatDoor

namespace Go.Proofs.YtpdoeapjdifmbaaGreatDoor
open Go.RowKit Ver Evr

theorem box_off {w : World} {g : Nat} {t : TypeId} {cs : Array Value} (h : Box w g t cs) (p : Addr) (hne : g ≠ p.block) (u : Value) : Box (w.setCell p u) g t cs := (Below.heap_setCell w p u g hne).trans h
theorem three {w w3 : World} (h : Kept (fun _ => False) w w3) (a b c : Value) : Kept (fun _ => False) w (((w3.setCell ⟨w.heap.size, 0, none⟩ a).setCell ⟨w.heap.size, 1, none⟩ b).setCell ⟨w.heap.size, 2, none⟩ c) :=
  ((h.setCell (p := ⟨w.heap.size, 0, none⟩) (.inr (Nat.le_refl _)) _).setCell (p := ⟨w.heap.size, 1, none⟩) (.inr (Nat.le_refl _)) _).setCell (p := ⟨w.heap.size, 2, none⟩) (.inr (Nat.le_refl _)) _
end Go.Proofs.YtpdoeapjdifmbaaGreatDoor
