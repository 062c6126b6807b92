/-
  The walks over the program's own text of layer 6: which names may be, and which are a file's. Conditions: the array of words that are no names lies as the program's text lays it. The walks over the document's answer for layer 6: which names may be. The walks over the document's answers for layer 4: which Ops may be, an Op's text. The walks over the program's own text of layer 3: which bytes, texts, EVRs may be. What the walks ask of the program's May, Show and Parse of EVRs, and what these answer. Conditions: as each theorem states.
-/
import Derived.Test.YtlpalepkomkngaaGreatDoorK21
import Derived.Test.YtlpalepkomkngaaGreatDoorK04
import Derived.Test.YtlpalepkomkngaaGreatDoorK02
import Derived.Handy
import Derived.Lib.Hide
import Derived.LoopN
import Derived.Test.YtlpalepkomkngaaGreatDoorRows
import Derived.Test.YtlpalepkomkngaaGreatDoorK20
import Derived.WalkKit
namespace Go.Proofs.YtlpalepkomkngaaGreatDoor
open Go.RowKit Ver Evr Dep

def nn0 : ByteArray := ⟨#[97, 110, 100]⟩
def nn1 : ByteArray := ⟨#[111, 114]⟩
def nn2 : ByteArray := ⟨#[105, 102]⟩
def nn3 : ByteArray := ⟨#[101, 108, 115, 101]⟩
def nn4 : ByteArray := ⟨#[117, 110, 108, 101, 115, 115]⟩
def nn5 : ByteArray := ⟨#[119, 105, 116, 104]⟩
def nn6 : ByteArray := ⟨#[119, 105, 116, 104, 111, 117, 116]⟩
/-- The array of words that are no names lies as the program's text lays it. -/
structure NotW (w : World) : Prop where
  old : 0 < w.heap.size
  n0 : w.cell? ⟨0, 0, none⟩ = some (.string nn0)
  n1 : w.cell? ⟨0, 1, none⟩ = some (.string nn1)
  n2 : w.cell? ⟨0, 2, none⟩ = some (.string nn2)
  n3 : w.cell? ⟨0, 3, none⟩ = some (.string nn3)
  n4 : w.cell? ⟨0, 4, none⟩ = some (.string nn4)
  n5 : w.cell? ⟨0, 5, none⟩ = some (.string nn5)
  n6 : w.cell? ⟨0, 6, none⟩ = some (.string nn6)
theorem NotW.kept {w w' : World} (h : NotW w) (k : Kept (fun _ => False) w w') : NotW w' := by
  have hlt : ∀ i : Nat, (⟨0, i, none⟩ : Addr).block < w.heap.size := fun _ => h.old
  exact ⟨Nat.lt_of_lt_of_le h.old k.size, (k.cell (hlt 0) (fun h => h)).trans h.n0, (k.cell (hlt 1) (fun h => h)).trans h.n1, (k.cell (hlt 2) (fun h => h)).trans h.n2, (k.cell (hlt 3) (fun h => h)).trans h.n3, (k.cell (hlt 4) (fun h => h)).trans h.n4, (k.cell (hlt 5) (fun h => h)).trans h.n5, (k.cell (hlt 6) (fun h => h)).trans h.n6⟩
theorem bytes_iff {s t : ByteArray} : (s.toList == t.toList) = decide (s = t) := by
  rw [ByteArray.toList_eq, ByteArray.toList_eq, Bool.eq_iff_iff]
  simp only [beq_iff_eq, decide_eq_true_eq]
  exact ⟨fun h => ByteArray.ext (Array.ext' h), fun h => by rw [h]⟩
theorem no_name (s : ByteArray) : noNames.contains s.data.toList = ((s.toList == nn0.toList) || (s.toList == nn1.toList) || (s.toList == nn2.toList) || (s.toList == nn3.toList) || (s.toList == nn4.toList) || (s.toList == nn5.toList) || (s.toList == nn6.toList)) := by
  simp only [ByteArray.toList_eq, noNames, List.contains_cons, List.contains_nil, Bool.or_false, Bool.or_assoc]
  rfl
theorem take_sign {s : List UInt8} {i : Nat} {c : UInt8} (h : (s.take i).all signD = true) (hc : s[i]? = some c) (hok : signD c = true) : (s.take (i + 1)).all signD = true := by
  rw [List.take_add_one, hc, List.all_append, h]
  simp [hok]
theorem name_not {s : List UInt8} {i : Nat} {c : UInt8} (hc : s[i]? = some c) (hok : signD c = false) : nameD s = false := by
  unfold nameD
  have : s.all signD = false := by
    rw [Bool.eq_false_iff]
    intro h
    have := List.all_eq_true.1 h c (List.mem_of_getElem? hc)
    rw [hok] at this
    cases this
  rw [this]
  simp
theorem name_empty : nameD [] = false := rfl
theorem name_long {s : List UInt8} (h : 64 < s.length) : nameD s = false := by
  unfold nameD
  rw [show decide (s.length ≤ 64) = false by simp; omega]
  simp
theorem name_word {s : List UInt8} (h : noNames.contains s = true) : nameD s = false := by
  unfold nameD
  rw [h]
  simp
theorem name_all {s : List UInt8} (h1 : 1 ≤ s.length) (h2 : s.length ≤ 64) (h : s.all signD = true) (hw : noNames.contains s = false) : nameD s = true := by
  unfold nameD
  rw [h, hw]
  simp [h1, h2]

set_option maxRecDepth 100000 in
set_option maxHeartbeats 2000000 in
theorem name_walk (s : ByteArray) (w : World) (hW : NotW w) :
    Calls Tryz.prog 68 #[.string s] w fun e w' => e = .returned (.bool (nameD s.data.toList)) ∧ Kept (fun _ => False) w w' := by
  by_cases h0 : s = ⟨#[]⟩
  · subst h0
    go_enter Tryz.func68, Tryz.ntmps68
    go_wp2_with fail
    go_ret
    exact ⟨rfl, Kept.refl _ _⟩
  · obtain ⟨b1, b2⟩ := text_ne h0
    have hsl : s.data.toList.length = s.size := rfl
    have hs1 : 1 ≤ s.size := by
      rcases Nat.eq_zero_or_pos s.size with h | h
      · exact absurd (empty_text.1 (List.eq_nil_of_length_eq_zero (by rw [hsl]; exact h))) h0
      · exact h
    clear h0
    by_cases h1 : 64 < s.size
    · have HN := Lib.hid (@name_long s.data.toList (by rw [hsl]; exact h1))
      have h1' : (64 : Int) < (s.size : Int) := by omega
      clear hsl
      go_enter Tryz.func68, Tryz.ntmps68
      go_wp2_with fail
      go_ret
      exact ⟨by rw [HN.out]; rfl, Kept.refl _ _⟩
    · have h1' : ¬ (64 : Int) < (s.size : Int) := by omega
      have HY := Lib.hid (fun h hw => @name_all s.data.toList (by rw [hsl]; exact hs1) (by rw [hsl]; omega) h hw)
      have HC := Lib.hid (no_name s)
      have HSL := Lib.hid hsl
      have HNW := Lib.hid hW
      clear hsl hW
      go_enter Tryz.func68, Tryz.ntmps68
      go_wp2_with fail
      go_loopw [] (fun wr => ∃ pos : Nat, wr = w.iter s pos ∧ pos ≤ s.size ∧ Hid ((s.data.toList.take pos).all signD = true)) (fun wr => s.size - wr.iterPos w.heap.size)
      case atStart => exact ⟨0, rfl, Nat.zero_le _, Lib.hid rfl⟩
      case round =>
        obtain ⟨pos, rfl, hp, HA⟩ := hrel
        by_cases hlt : pos < s.size
        · obtain ⟨c, hc⟩ : ∃ c, c = s[pos] := ⟨_, rfl⟩
          have HCL := Lib.hid (char_at hlt hc)
          by_cases hlow : c.toNat < 128
          · have hnx : ∀ ty, (Instr.next (.pointer (some ⟨w.heap.size, 0, none⟩)) true ty).run Tryz.prog (w.iter s pos) = .ok (.tuple #[.bool true, .int .i64 pos, .int .i32 (c.toNat : Int)]) (w.iter s (pos + 1)) := fun ty => by
              rw [hc]
              exact run_next_ascii w s pos ty hlt (by rw [← hc]; exact hlow)
            have hM := fun W => mayRune_low c hlow W
            clear hc
            cases hok : signD c with
            | true =>
              rw [hok] at hM
              have HOK := Lib.hid hok
              clear hok hlow
              go_wp2_with (first | (go_at_call 97; with_reducible refine (hM _).mono ?_; rintro e w1 ⟨rfl, rfl⟩) | fail)
              go_roundw
              case rel => exact ⟨pos + 1, rfl, by omega, Lib.hid (take_sign HA.out HCL.out HOK.out)⟩
              case measure => simp; omega
            | false =>
              rw [hok] at hM
              have HN := Lib.hid (name_not HCL.out hok)
              clear hok hlow
              go_wp2_with (first | (go_at_call 97; with_reducible refine (hM _).mono ?_; rintro e w1 ⟨rfl, rfl⟩) | fail)
              go_ret
              exact ⟨by rw [HN.out]; rfl, (Kept.refl _ _).alloc _⟩
          · have hhi := decode_high s pos hlt (by rw [← hc]; omega)
            have hnx : ∀ ty, (Instr.next (.pointer (some ⟨w.heap.size, 0, none⟩)) true ty).run Tryz.prog (w.iter s pos) = .ok (.tuple #[.bool true, .int .i64 pos, .int .i32 (Utf8.decode s pos).1]) (w.iter s (pos + (Utf8.decode s pos).2)) := fun ty => run_next_any w s pos ty hlt
            have HN := Lib.hid (name_not HCL.out (by unfold signD okB; simp; omega))
            generalize (Utf8.decode s pos).1 = R at hnx hhi
            generalize (Utf8.decode s pos).2 = K at hnx hhi
            have hM := fun W => mayRune_high (R : Int) (by omega) W
            clear hc hlow hhi
            go_wp2_with (first | (go_at_call 97; with_reducible refine (hM _).mono ?_; rintro e w1 ⟨rfl, hk1⟩) | fail)
            go_ret
            exact ⟨by rw [HN.out]; rfl, ((Kept.refl _ _).alloc _).trans hk1 (fun _ _ h => h)⟩
        · have hnx : ∀ ty, (Instr.next (.pointer (some ⟨w.heap.size, 0, none⟩)) true ty).run Tryz.prog (w.iter s pos) = .ok (.tuple #[.bool false]) (w.iter s pos) := fun ty => run_next_end w s pos ty hlt
          obtain rfl : pos = s.size := by omega
          have hall : s.data.toList.all signD = true := by have := HA.out; rwa [List.take_of_length_le (by rw [HSL.out]; exact Nat.le_refl _)] at this
          have HK := Lib.hid ((Kept.refl (fun _ => False) w).alloc (.stringIter s s.size))
          have hN2 := HNW.out.kept HK.out
          have HF : Hid (nameD s.data.toList = !((s.toList == nn0.toList) || (s.toList == nn1.toList) || (s.toList == nn2.toList) || (s.toList == nn3.toList) || (s.toList == nn4.toList) || (s.toList == nn5.toList) || (s.toList == nn6.toList))) := Lib.hid (by
            rw [← HC.out]
            cases hw : noNames.contains s.data.toList with
            | true => exact name_word hw
            | false => exact HY.out hall hw)
          have c0 : (w.iter s s.size).cell? ⟨0, 0, none⟩ = some (.string nn0) := hN2.n0
          have c1 : (w.iter s s.size).cell? ⟨0, 1, none⟩ = some (.string nn1) := hN2.n1
          have c2 : (w.iter s s.size).cell? ⟨0, 2, none⟩ = some (.string nn2) := hN2.n2
          have c3 : (w.iter s s.size).cell? ⟨0, 3, none⟩ = some (.string nn3) := hN2.n3
          have c4 : (w.iter s s.size).cell? ⟨0, 4, none⟩ = some (.string nn4) := hN2.n4
          have c5 : (w.iter s s.size).cell? ⟨0, 5, none⟩ = some (.string nn5) := hN2.n5
          have c6 : (w.iter s s.size).cell? ⟨0, 6, none⟩ = some (.string nn6) := hN2.n6
          have hX0 : ∀ W, (Instr.index 117 (.agg #[.string nn0, .string nn1, .string nn2, .string nn3, .string nn4, .string nn5, .string nn6]) (.int .i64 0)).run Tryz.prog W = .ok (.string nn0) W := fun W => by kernel_rfl
          have hX1 : ∀ W, (Instr.index 117 (.agg #[.string nn0, .string nn1, .string nn2, .string nn3, .string nn4, .string nn5, .string nn6]) (.int .i64 1)).run Tryz.prog W = .ok (.string nn1) W := fun W => by kernel_rfl
          have hX2 : ∀ W, (Instr.index 117 (.agg #[.string nn0, .string nn1, .string nn2, .string nn3, .string nn4, .string nn5, .string nn6]) (.int .i64 2)).run Tryz.prog W = .ok (.string nn2) W := fun W => by kernel_rfl
          have hX3 : ∀ W, (Instr.index 117 (.agg #[.string nn0, .string nn1, .string nn2, .string nn3, .string nn4, .string nn5, .string nn6]) (.int .i64 3)).run Tryz.prog W = .ok (.string nn3) W := fun W => by kernel_rfl
          have hX4 : ∀ W, (Instr.index 117 (.agg #[.string nn0, .string nn1, .string nn2, .string nn3, .string nn4, .string nn5, .string nn6]) (.int .i64 4)).run Tryz.prog W = .ok (.string nn4) W := fun W => by kernel_rfl
          have hX5 : ∀ W, (Instr.index 117 (.agg #[.string nn0, .string nn1, .string nn2, .string nn3, .string nn4, .string nn5, .string nn6]) (.int .i64 5)).run Tryz.prog W = .ok (.string nn5) W := fun W => by kernel_rfl
          have hX6 : ∀ W, (Instr.index 117 (.agg #[.string nn0, .string nn1, .string nn2, .string nn3, .string nn4, .string nn5, .string nn6]) (.int .i64 6)).run Tryz.prog W = .ok (.string nn6) W := fun W => by kernel_rfl
          clear hall hN2 HY HC HA
          generalize hq0 : (s.toList == nn0.toList) = q0 at HF
          generalize hq1 : (s.toList == nn1.toList) = q1 at HF
          generalize hq2 : (s.toList == nn2.toList) = q2 at HF
          generalize hq3 : (s.toList == nn3.toList) = q3 at HF
          generalize hq4 : (s.toList == nn4.toList) = q4 at HF
          generalize hq5 : (s.toList == nn5.toList) = q5 at HF
          generalize hq6 : (s.toList == nn6.toList) = q6 at HF
          cases q0 with
          | true =>
            go_wp2_with fail
            refine wp_loop_rounds 8 ?_
            rw [rounds_succ]
            go_wp2_with fail
            go_ret
            exact ⟨by rw [HF.out]; rfl, HK.out⟩
          | false =>
            cases q1 with
            | true =>
              go_wp2_with fail
              refine wp_loop_rounds 8 ?_
              rw [rounds_succ]
              go_wp2_with fail
              rw [rounds_succ]
              go_wp2_with fail
              go_ret
              exact ⟨by rw [HF.out]; rfl, HK.out⟩
            | false =>
              cases q2 with
              | true =>
                go_wp2_with fail
                refine wp_loop_rounds 8 ?_
                rw [rounds_succ]
                go_wp2_with fail
                rw [rounds_succ]
                go_wp2_with fail
                rw [rounds_succ]
                go_wp2_with fail
                go_ret
                exact ⟨by rw [HF.out]; rfl, HK.out⟩
              | false =>
                cases q3 with
                | true =>
                  go_wp2_with fail
                  refine wp_loop_rounds 8 ?_
                  rw [rounds_succ]
                  go_wp2_with fail
                  rw [rounds_succ]
                  go_wp2_with fail
                  rw [rounds_succ]
                  go_wp2_with fail
                  rw [rounds_succ]
                  go_wp2_with fail
                  go_ret
                  exact ⟨by rw [HF.out]; rfl, HK.out⟩
                | false =>
                  cases q4 with
                  | true =>
                    go_wp2_with fail
                    refine wp_loop_rounds 8 ?_
                    rw [rounds_succ]
                    go_wp2_with fail
                    rw [rounds_succ]
                    go_wp2_with fail
                    rw [rounds_succ]
                    go_wp2_with fail
                    rw [rounds_succ]
                    go_wp2_with fail
                    rw [rounds_succ]
                    go_wp2_with fail
                    go_ret
                    exact ⟨by rw [HF.out]; rfl, HK.out⟩
                  | false =>
                    cases q5 with
                    | true =>
                      go_wp2_with fail
                      refine wp_loop_rounds 8 ?_
                      rw [rounds_succ]
                      go_wp2_with fail
                      rw [rounds_succ]
                      go_wp2_with fail
                      rw [rounds_succ]
                      go_wp2_with fail
                      rw [rounds_succ]
                      go_wp2_with fail
                      rw [rounds_succ]
                      go_wp2_with fail
                      rw [rounds_succ]
                      go_wp2_with fail
                      go_ret
                      exact ⟨by rw [HF.out]; rfl, HK.out⟩
                    | false =>
                      cases q6 with
                      | true =>
                        go_wp2_with fail
                        refine wp_loop_rounds 8 ?_
                        rw [rounds_succ]
                        go_wp2_with fail
                        rw [rounds_succ]
                        go_wp2_with fail
                        rw [rounds_succ]
                        go_wp2_with fail
                        rw [rounds_succ]
                        go_wp2_with fail
                        rw [rounds_succ]
                        go_wp2_with fail
                        rw [rounds_succ]
                        go_wp2_with fail
                        rw [rounds_succ]
                        go_wp2_with fail
                        go_ret
                        exact ⟨by rw [HF.out]; rfl, HK.out⟩
                      | false =>
                        go_wp2_with fail
                        refine wp_loop_rounds 8 ?_
                        rw [rounds_succ]
                        go_wp2_with fail
                        rw [rounds_succ]
                        go_wp2_with fail
                        rw [rounds_succ]
                        go_wp2_with fail
                        rw [rounds_succ]
                        go_wp2_with fail
                        rw [rounds_succ]
                        go_wp2_with fail
                        rw [rounds_succ]
                        go_wp2_with fail
                        rw [rounds_succ]
                        go_wp2_with fail
                        rw [rounds_succ]
                        go_wp2_with fail
                        go_ret
                        exact ⟨by rw [HF.out]; rfl, HK.out⟩

theorem hasPrefix_slash (s : ByteArray) : Lib.hasPrefix s.data.toList [47] = (s.data.toList.head? == some 47) := by
  unfold Lib.hasPrefix
  cases s.data.toList with
  | nil => rfl
  | cons b l =>
    show (47 == b && [].isPrefixOf l) = (some b == some 47)
    rw [Bool.eq_iff_iff]
    simp
    exact eq_comm
theorem file_walk (s : ByteArray) (w : World) (hW : NotW w) :
    Calls Tryz.prog 69 #[.string s] w fun e w' => e = .returned (.bool (fileD s.data.toList)) ∧ Kept (fun _ => False) w w' := by
  have hN := name_walk s w hW
  have hP : Calls Tryz.prog 98 #[.string s, .string ⟨#[47]⟩] w fun e w' => e = .returned (.bool (s.data.toList.head? == some 47)) ∧ w' = w := by
    have := sh_strings_HasPrefix s ⟨#[47]⟩ w
    rw [show (⟨#[47]⟩ : ByteArray).data.toList = [47] from rfl, hasPrefix_slash] at this
    exact this
  have HF := Lib.hid (show fileD s.data.toList = (nameD s.data.toList && s.data.toList.head? == some 47) from rfl)
  generalize nameD s.data.toList = x at *
  generalize (s.data.toList.head? == some 47) = y at *
  cases y
  · go_enter Tryz.func69, Tryz.ntmps69
    go_wp2_with (go_at_call 98; with_reducible refine hP.mono ?_; rintro e w1 ⟨rfl, rfl⟩)
    go_ret
    exact ⟨by rw [HF.out]; cases x <;> rfl, Kept.refl _ _⟩
  · go_enter Tryz.func69, Tryz.ntmps69
    go_wp2_with (first
      | (go_at_call 98; with_reducible refine hP.mono ?_; rintro e w1 ⟨rfl, rfl⟩)
      | (go_at_call 68; with_reducible refine hN.mono ?_; rintro e w1 ⟨rfl, hk⟩))
    go_ret
    exact ⟨by rw [HF.out]; cases x <;> rfl, hk⟩
end Go.Proofs.YtlpalepkomkngaaGreatDoor

namespace Go.Proofs.YtlpalepkomkngaaGreatDoor
open Go.RowKit Ver Evr Dep

set_option maxRecDepth 100000 in
set_option maxHeartbeats 1000000 in
theorem sign6_walk (b : UInt8) (w : World) :
    Calls Tryz.prog 111 #[.int .u8 (b.toNat : Int)] w fun e w' => e = .returned (.bool (signD b)) ∧ w' = w := by
  have hb : b.toNat < 256 := UInt8.toNat_lt b
  by_cases c3 : (97 ≤ b.toNat ∧ b.toNat ≤ 122) ∨ (65 ≤ b.toNat ∧ b.toNat ≤ 90) ∨ (48 ≤ b.toNat ∧ b.toNat ≤ 57)
  · have fin := Lib.hid (show signD b = true by unfold signD okB; simp; omega)
    rcases c3 with ⟨a1, a2⟩ | ⟨a1, a2⟩ | ⟨a1, a2⟩
    all_goals
      go_enter Tryz.func111, Tryz.ntmps111
      go_wp2_with fail
      go_ret
      exact ⟨by rw [fin.out]; rfl, rfl⟩
  · have fin := Lib.hid (show signD b = (((b.toNat : Int) == 46) || ((b.toNat : Int) == 95) || ((b.toNat : Int) == 43) || ((b.toNat : Int) == 45) || ((b.toNat : Int) == 47) || ((b.toNat : Int) == 58) || ((b.toNat : Int) == 64) || ((b.toNat : Int) == 126) || ((b.toNat : Int) == 94)) by
      rw [Bool.eq_iff_iff]
      unfold signD okB
      simp
      omega)
    have hc : b.toNat < 48 ∨ (57 < b.toNat ∧ b.toNat < 65) ∨ (90 < b.toNat ∧ b.toNat < 97) ∨ 122 < b.toNat := by omega
    clear c3
    generalize hz : (b.toNat : Int) = z at fin
    rcases hc with hc | ⟨hc, hd⟩ | ⟨hc, hd⟩ | hc
    all_goals
      go_enter Tryz.func111, Tryz.ntmps111
      go_wp2_with fail
      all_goals go_ret
      all_goals refine ⟨?_, rfl⟩
      all_goals rw [fin.out]
      all_goals show Ending.returned (Value.bool _) = Ending.returned (Value.bool _)
      all_goals refine congrArg (fun x => Ending.returned (Value.bool x)) ?_
      all_goals simp_all
theorem no_lits (s : ByteArray) : noNames.contains s.data.toList = ((s.toList == [97, 110, 100]) || (s.toList == [111, 114]) || (s.toList == [105, 102]) || (s.toList == [101, 108, 115, 101]) || (s.toList == [117, 110, 108, 101, 115, 115]) || (s.toList == [119, 105, 116, 104]) || (s.toList == [119, 105, 116, 104, 111, 117, 116])) := by
  simp only [ByteArray.toList_eq, noNames, List.contains_cons, List.contains_nil, Bool.or_false, Bool.or_assoc]
set_option maxRecDepth 100000 in
set_option maxHeartbeats 2000000 in
theorem name6_walk (s : ByteArray) (w : World) :
    Calls Tryz.prog 87 #[.string s] w fun e w' => e = .returned (.bool (nameD s.data.toList)) ∧ w' = w := by
  have hsl : s.data.toList.length = s.size := rfl
  by_cases h0 : s.size < 1
  · have HN := Lib.hid (show nameD s.data.toList = false by rw [List.eq_nil_of_length_eq_zero (by rw [hsl]; omega : s.data.toList.length = 0)]; rfl)
    have hs1' : (s.size : Int) < 1 := by omega
    clear hsl h0
    go_enter Tryz.func87, Tryz.ntmps87
    go_wp2_with fail
    go_ret
    exact ⟨by rw [HN.out]; rfl, rfl⟩
  · have hs1 : 1 ≤ s.size := by omega
    have hs1' : ¬ (s.size : Int) < 1 := by omega
    clear h0
    by_cases h1 : 64 < s.size
    · have HN := Lib.hid (@name_long s.data.toList (by rw [hsl]; exact h1))
      have h1' : (64 : Int) < (s.size : Int) := by omega
      clear hsl
      go_enter Tryz.func87, Tryz.ntmps87
      go_wp2_with fail
      go_ret
      exact ⟨by rw [HN.out]; rfl, rfl⟩
    · have h1' : ¬ (64 : Int) < (s.size : Int) := by omega
      have HY := Lib.hid (fun h hw => @name_all s.data.toList (by rw [hsl]; exact hs1) (by rw [hsl]; omega) h hw)
      have HW := Lib.hid (@name_word s.data.toList)
      have HC := Lib.hid (no_lits s)
      have HSL := Lib.hid hsl
      clear hsl
      generalize hq0 : (s.toList == [97, 110, 100]) = q0 at HC
      generalize hq1 : (s.toList == [111, 114]) = q1 at HC
      generalize hq2 : (s.toList == [105, 102]) = q2 at HC
      generalize hq3 : (s.toList == [101, 108, 115, 101]) = q3 at HC
      generalize hq4 : (s.toList == [117, 110, 108, 101, 115, 115]) = q4 at HC
      generalize hq5 : (s.toList == [119, 105, 116, 104]) = q5 at HC
      generalize hq6 : (s.toList == [119, 105, 116, 104, 111, 117, 116]) = q6 at HC
      cases q0 with
      | true =>
        go_enter Tryz.func87, Tryz.ntmps87
        go_wp2_with fail
        go_ret
        exact ⟨by rw [HW.out (by rw [HC.out]; simp)]; rfl, rfl⟩
      | false =>
        cases q1 with
        | true =>
          go_enter Tryz.func87, Tryz.ntmps87
          go_wp2_with fail
          go_ret
          exact ⟨by rw [HW.out (by rw [HC.out]; simp)]; rfl, rfl⟩
        | false =>
          cases q2 with
          | true =>
            go_enter Tryz.func87, Tryz.ntmps87
            go_wp2_with fail
            go_ret
            exact ⟨by rw [HW.out (by rw [HC.out]; simp)]; rfl, rfl⟩
          | false =>
            cases q3 with
            | true =>
              go_enter Tryz.func87, Tryz.ntmps87
              go_wp2_with fail
              go_ret
              exact ⟨by rw [HW.out (by rw [HC.out]; simp)]; rfl, rfl⟩
            | false =>
              cases q4 with
              | true =>
                go_enter Tryz.func87, Tryz.ntmps87
                go_wp2_with fail
                go_ret
                exact ⟨by rw [HW.out (by rw [HC.out]; simp)]; rfl, rfl⟩
              | false =>
                cases q5 with
                | true =>
                  go_enter Tryz.func87, Tryz.ntmps87
                  go_wp2_with fail
                  go_ret
                  exact ⟨by rw [HW.out (by rw [HC.out]; simp)]; rfl, rfl⟩
                | false =>
                  cases q6 with
                  | true =>
                    go_enter Tryz.func87, Tryz.ntmps87
                    go_wp2_with fail
                    go_ret
                    exact ⟨by rw [HW.out (by rw [HC.out]; simp)]; rfl, rfl⟩
                  | false =>
                    have HNO := Lib.hid (show noNames.contains s.data.toList = false by rw [HC.out]; rfl)
                    clear HC HW
                    go_enter Tryz.func87, Tryz.ntmps87
                    go_wp2_with fail
                    go_loop [3] (fun v => ∃ i : Nat, v = .int .i64 (i : Int) ∧ i ≤ s.size ∧ Hid ((s.data.toList.take i).all signD = true)) (fun v => s.size - (intOf v).toNat)
                    case atStart => exact ⟨0, rfl, Nat.zero_le _, Lib.hid rfl⟩
                    case round =>
                      obtain ⟨i, rfl, hi, HA⟩ := hrel
                      by_cases hlt : i < s.size
                      · obtain ⟨c, hc⟩ : ∃ c, c = s[i] := ⟨_, rfl⟩
                        have HCL := Lib.hid (char_at hlt hc)
                        have hc' : s[i] = c := hc.symm
                        have hM := fun W => sign6_walk c W
                        clear hc
                        cases hok : signD c with
                        | true =>
                          rw [hok] at hM
                          have HOK := Lib.hid hok
                          clear hok
                          go_wp2_with (first | (go_at_call 111; with_reducible refine (hM _).mono ?_; rintro e w1 ⟨rfl, rfl⟩) | fail)
                          go_round
                          case rel => exact ⟨i + 1, by go_num, by omega, Lib.hid (take_sign HA.out HCL.out HOK.out)⟩
                          case measure => simp [intOf]; omega
                        | false =>
                          rw [hok] at hM
                          have HN := Lib.hid (name_not HCL.out hok)
                          clear hok
                          go_wp2_with (first | (go_at_call 111; with_reducible refine (hM _).mono ?_; rintro e w1 ⟨rfl, rfl⟩) | fail)
                          go_ret
                          exact ⟨by rw [HN.out]; rfl, rfl⟩
                      · obtain rfl : i = s.size := by omega
                        have HF := Lib.hid (HY.out (by have := HA.out; rwa [List.take_of_length_le (by rw [HSL.out]; exact Nat.le_refl _)] at this) HNO.out)
                        go_wp2_with fail
                        go_ret
                        exact ⟨by rw [HF.out]; rfl, rfl⟩
theorem file6_walk (s : ByteArray) (w : World) :
    Calls Tryz.prog 88 #[.string s] w fun e w' => e = .returned (.bool (fileD s.data.toList)) ∧ w' = w := by
  have hN := name6_walk s w
  cases hx : nameD s.data.toList with
  | false =>
    rw [hx] at hN
    have HF := Lib.hid (show fileD s.data.toList = false by unfold fileD; rw [hx]; rfl)
    clear hx
    go_enter Tryz.func88, Tryz.ntmps88
    go_wp2_with (go_at_call 87; with_reducible refine hN.mono ?_; rintro e w1 ⟨rfl, rfl⟩)
    go_ret
    exact ⟨by rw [HF.out]; rfl, rfl⟩
  | true =>
    rw [hx] at hN
    have h1 : 0 < s.size := (name_parts hx).1
    obtain ⟨c, hc⟩ : ∃ c, c = s[0] := ⟨_, rfl⟩
    have hcl := char_at h1 hc
    have hc' : s[0] = c := hc.symm
    have HF := Lib.hid (show fileD s.data.toList = ((c.toNat : Int) == 47) by
      unfold fileD
      rw [hx, List.head?_eq_getElem?, hcl, Bool.true_and, Bool.eq_iff_iff]
      simp only [beq_iff_eq, Option.some.injEq]
      constructor
      · intro h; rw [h]; rfl
      · intro h; exact UInt8.toNat_inj.1 (by have : c.toNat = 47 := by omega
                                             rw [this]; rfl))
    clear hx hc hcl
    go_enter Tryz.func88, Tryz.ntmps88
    go_wp2_with (first | (go_at_call 87; with_reducible refine hN.mono ?_; rintro e w1 ⟨rfl, rfl⟩) | fail)
    go_ret
    exact ⟨by rw [HF.out]; rfl, rfl⟩
end Go.Proofs.YtlpalepkomkngaaGreatDoor

namespace Go.Proofs.YtlpalepkomkngaaGreatDoor
open Go.RowKit Span Evr

/-- An Op is one of the six, or none of them. -/
theorem op_cases (o : Nat) : o = 0 ∨ o = 1 ∨ o = 2 ∨ o = 3 ∨ o = 4 ∨ o = 6 ∨ (((o : Int) == 0) = false ∧ ((o : Int) == 1) = false ∧ ((o : Int) == 2) = false ∧ ((o : Int) == 3) = false ∧ ((o : Int) == 4) = false ∧ ((o : Int) == 6) = false ∧ mayO o = false ∧ textO o = ⟨#[]⟩) := by
  by_cases h : o = 0 ∨ o = 1 ∨ o = 2 ∨ o = 3 ∨ o = 4 ∨ o = 6
  · omega
  · refine .inr (.inr (.inr (.inr (.inr (.inr ⟨?_, ?_, ?_, ?_, ?_, ?_, ?_, ?_⟩)))))
    all_goals first | (simp; omega; done) | (simp [mayO]; omega; done) | (unfold textO; split <;> first | omega | rfl)
set_option maxRecDepth 100000 in
set_option maxHeartbeats 1000000 in
theorem may4 (o : Nat) (ho : o < 256) (w : World) : Calls Tryz.prog 141 #[.int .u8 (o : Int)] w fun e w' => e = .returned (.bool (mayO o)) ∧ Kept (fun _ => False) w w' := by
  rcases op_cases o with rfl | rfl | rfl | rfl | rfl | rfl | ⟨g0, g1, g2, g3, g4, g6, hm, ht⟩
  all_goals go_enter Tryz.func141, Tryz.ntmps141
  all_goals go_wp2_with fail
  all_goals go_ret
  all_goals first | exact ⟨rfl, Kept.refl _ _⟩ | exact ⟨by rw [hm]; rfl, Kept.refl _ _⟩
end Go.Proofs.YtlpalepkomkngaaGreatDoor

namespace Go.Proofs.YtlpalepkomkngaaGreatDoor
open Go.RowKit Ver Evr

set_option maxRecDepth 100000 in
theorem mayByte_walk (b : UInt8) (w : World) :
    Calls Tryz.prog 130 #[.int .u8 (b.toNat : Int)] w fun e w' => e = .returned (.bool (okB b)) ∧ w = w' := by
  have hb : b.toNat < 256 := UInt8.toNat_lt b
  by_cases c3 : (97 ≤ b.toNat ∧ b.toNat ≤ 122) ∨ (65 ≤ b.toNat ∧ b.toNat ≤ 90) ∨ (48 ≤ b.toNat ∧ b.toNat ≤ 57)
  · have fin := Lib.hid (show okB b = true by unfold okB; simp; omega)
    rcases c3 with ⟨a1, a2⟩ | ⟨a1, a2⟩ | ⟨a1, a2⟩
    all_goals
      go_enter Tryz.func130, Tryz.ntmps130
      go_wp2_with fail
      go_ret
      exact ⟨by rw [fin.out]; rfl, rfl⟩
  · have hI := fun W => index_sign b W
    have h1 := sign_index b
    have fin := Lib.hid (show okB b = decide (0 ≤ Lib.indexByte [46, 95, 43, 126, 94] b) by
      rw [h1]
      unfold okB
      have e1 : decide (97 ≤ b.toNat ∧ b.toNat ≤ 122) = false := by simp; omega
      have e2 : decide (65 ≤ b.toNat ∧ b.toNat ≤ 90) = false := by simp; omega
      have e3 : decide (48 ≤ b.toNat ∧ b.toNat ≤ 57) = false := by simp; omega
      rw [e1, e2, e3]
      simp)
    have hc : b.toNat < 48 ∨ (57 < b.toNat ∧ b.toNat < 65) ∨ (90 < b.toNat ∧ b.toNat < 97) ∨ 122 < b.toNat := by omega
    generalize Lib.indexByte [46, 95, 43, 126, 94] b = ix at *
    clear h1 c3
    rcases hc with hc | ⟨hc, hd⟩ | ⟨hc, hd⟩ | hc
    all_goals
      go_enter Tryz.func130, Tryz.ntmps130
      go_wp2_with (first | (go_at_call 154; with_reducible refine (hI _).mono ?_; rintro e w1 ⟨rfl, rfl⟩) | fail)
      go_ret
      exact ⟨by rw [fin.out]; rfl, rfl⟩

theorem word_empty : wordE [] = false := rfl
theorem word_long {s : List UInt8} (h : 64 < s.length) : wordE s = false := by
  unfold wordE
  rw [show decide (s.length ≤ 64) = false by simp; omega]
  simp
theorem word_all {s : List UInt8} (h1 : 1 ≤ s.length) (h2 : s.length ≤ 64) (h : s.all okB = true) : wordE s = true := by
  unfold wordE
  rw [h]
  simp [h1, h2]
set_option maxRecDepth 100000 in
set_option maxHeartbeats 1000000 in
theorem mayText_walk (s : ByteArray) (w : World) :
    Calls Tryz.prog 99 #[.string s] w fun e w' => e = .returned (.bool (wordE s.data.toList)) ∧ w = w' := by
  by_cases h0 : s = ⟨#[]⟩
  · subst h0
    go_enter Tryz.func99, Tryz.ntmps99
    go_wp2_with fail
    go_ret
    exact ⟨rfl, rfl⟩
  · obtain ⟨b1, b2⟩ := text_ne h0
    have hsl : s.data.toList.length = s.size := rfl
    have hs1 : 1 ≤ s.size := by
      rcases Nat.eq_zero_or_pos s.size with h | h
      · exact absurd (empty_text.1 (List.eq_nil_of_length_eq_zero (by rw [hsl]; exact h))) h0
      · exact h
    clear h0
    by_cases h1 : 64 < s.size
    · have HN := Lib.hid (@word_long s.data.toList (by rw [hsl]; exact h1))
      have h1' : (64 : Int) < (s.size : Int) := by omega
      clear hsl
      go_enter Tryz.func99, Tryz.ntmps99
      go_wp2_with fail
      go_ret
      exact ⟨by rw [HN.out]; rfl, rfl⟩
    · have h1' : ¬ (64 : Int) < (s.size : Int) := by omega
      have HY := Lib.hid (fun h => @word_all s.data.toList (by rw [hsl]; exact hs1) (by rw [hsl]; omega) h)
      have HSL := Lib.hid hsl
      clear hsl
      go_enter Tryz.func99, Tryz.ntmps99
      go_wp2_with fail
      go_loop [13] (fun v => ∃ i : Nat, v = .int .i64 (i : Int) ∧ i ≤ s.size ∧ (s.data.toList.take i).all okB = true) (fun v => s.size - (intOf v).toNat)
      case atStart => exact ⟨0, rfl, Nat.zero_le _, rfl⟩
      case round =>
        obtain ⟨i, rfl, hi, ha⟩ := hrel
        have HA := Lib.hid ha
        clear ha
        by_cases hlt : i < s.size
        · obtain ⟨c, hc⟩ : ∃ c, c = s[i] := ⟨_, rfl⟩
          have HCL := Lib.hid (char_at hlt hc)
          have hc' : s[i] = c := hc.symm
          have hM := fun W => mayByte_walk c W
          clear hc
          cases hok : okB c with
          | true =>
            rw [hok] at hM
            have HOK := Lib.hid hok
            clear hok
            go_wp2_with (first | (go_at_call 130; with_reducible refine (hM _).mono ?_; rintro e w1 ⟨rfl, rfl⟩) | fail)
            go_round
            case rel => exact ⟨i + 1, by go_num, by omega, take_ok HA.out HCL.out HOK.out⟩
            case measure => simp [intOf]; omega
          | false =>
            rw [hok] at hM
            have HN := Lib.hid (word_not HCL.out hok)
            clear hok
            go_wp2_with (first | (go_at_call 130; with_reducible refine (hM _).mono ?_; rintro e w1 ⟨rfl, rfl⟩) | fail)
            go_ret
            exact ⟨by rw [HN.out]; rfl, rfl⟩
        · obtain rfl : i = s.size := by omega
          have HF := Lib.hid (HY.out (by have := HA.out; rwa [List.take_of_length_le (by rw [HSL.out]; exact Nat.le_refl _)] at this))
          go_wp2_with fail
          go_ret
          exact ⟨by rw [HF.out]; rfl, rfl⟩

set_option maxRecDepth 100000 in
set_option maxHeartbeats 1000000 in
theorem mayK_walk (n : Int) (v r : ByteArray) (dep : Bool) (w : World) :
    Calls Tryz.prog 70 #[.agg #[.int .i64 n, .string v, .string r], .bool dep] w fun e w' => e = .returned (.bool (mayE (evrE n v r) dep)) ∧ Kept (fun _ => False) w w' := by
  have W1 := fun w => mayText_walk v w
  have W2 := fun w => mayText_walk r w
  by_cases h0 : n < 0
  · have HN := Lib.hid (@may_low n v r dep (.inl h0))
    have g0 : decide (n < 0) = true := by simp [h0]
    clear h0
    go_enter Tryz.func70, Tryz.ntmps70
    go_wp2_with fail
    go_ret
    exact ⟨by rw [HN.out]; rfl, (Kept.refl _ _).alloc _⟩
  · by_cases h1 : 2147483647 < n
    · have HN := Lib.hid (@may_low n v r dep (.inr h1))
      have g0 : decide (n < 0) = false := by simp; omega
      have g1 : decide (2147483647 < n) = true := by simp [h1]
      clear h1 h0
      go_enter Tryz.func70, Tryz.ntmps70
      go_wp2_with fail
      go_ret
      exact ⟨by rw [HN.out]; rfl, (Kept.refl _ _).alloc _⟩
    · have g0 : decide (n < 0) = false := by simp; omega
      have g1 : decide (2147483647 < n) = false := by simp; omega
      by_cases hw : wordE v.data.toList = true
      · by_cases hr0 : r = ⟨#[]⟩
        · subst hr0
          have HN := Lib.hid (@may_dep n v dep (by omega) (by omega) hw)
          rw [hw] at W1
          rw [show wordE (⟨#[]⟩ : ByteArray).data.toList = false from rfl] at W2
          clear h1 h0 hw
          cases dep
          all_goals
            go_enter Tryz.func70, Tryz.ntmps70
            go_wp2_with (first | (go_at_call 99; (first | (with_reducible refine (W1 _).mono ?_) | (with_reducible refine (W2 _).mono ?_)); rintro e w1 ⟨rfl, rfl⟩) | fail)
            go_ret
            exact ⟨by rw [HN.out]; rfl, (Kept.refl _ _).alloc _⟩
        · have HN := Lib.hid (@may_rel n v r dep (by omega) (by omega) hw hr0)
          obtain ⟨b1, b2⟩ := text_ne hr0
          rw [hw] at W1
          clear h1 h0 hw hr0
          generalize wordE r.data.toList = wr at W2 HN
          cases wr
          all_goals
            cases dep
            all_goals
              go_enter Tryz.func70, Tryz.ntmps70
              go_wp2_with (first | (go_at_call 99; (first | (with_reducible refine (W1 _).mono ?_) | (with_reducible refine (W2 _).mono ?_)); rintro e w1 ⟨rfl, rfl⟩) | fail)
              go_ret
              exact ⟨by rw [HN.out]; rfl, (Kept.refl _ _).alloc _⟩
      · have hw' : wordE v.data.toList = false := by simpa using hw
        have HN := Lib.hid (@may_ver n v r dep hw')
        rw [hw'] at W1
        clear h1 h0 hw hw'
        go_enter Tryz.func70, Tryz.ntmps70
        go_wp2_with (first | (go_at_call 99; with_reducible refine (W1 _).mono ?_; rintro e w1 ⟨rfl, rfl⟩) | fail)
        go_ret
        exact ⟨by rw [HN.out]; rfl, (Kept.refl _ _).alloc _⟩
end Go.Proofs.YtlpalepkomkngaaGreatDoor

namespace Go.Proofs.YtlpalepkomkngaaGreatDoor
open Go.RowKit Ver Evr

theorem bytes_ext {x y : ByteArray} (h : x.data.toList = y.data.toList) : x = y := ByteArray.ext (Array.ext' h)
theorem box_off {w : World} {g : Nat} {t : TypeId} {cs : Array Value} (h : Box w g t cs) (p : Addr) (hne : g ≠ p.block) (u : Value) : Box (w.setCell p u) g t cs := (Below.heap_setCell w p u g hne).trans h
abbrev zeroE : Array Value := #[.int .i64 0, .string ⟨#[]⟩, .string ⟨#[]⟩]
theorem app_list3 (x y : ByteArray) : (x ++ y).data.toList = x.data.toList ++ y.data.toList := by simp [ByteArray.data_append]
/-- What Show answers. -/
def showR (n : Int) (v r : ByteArray) : Value := if mayE (evrE n v r) true = true then .tuple #[.string ⟨(showE (evrE n v r)).toArray⟩, .int .i64 0] else .tuple #[.string ⟨#[]⟩, .int .i64 4]
theorem show_no {n : Int} {v r : ByteArray} (h : mayE (evrE n v r) true = false) : showR n v r = .tuple #[.string ⟨#[]⟩, .int .i64 4] := by unfold showR; rw [h]; rfl
theorem bytes_of (s : ByteArray) : s = ⟨s.data.toList.toArray⟩ := by cases s; simp
theorem show_yes {n : Int} {v r t : ByteArray} (h : mayE (evrE n v r) true = true) (ht : t.data.toList = showE (evrE n v r)) : showR n v r = .tuple #[.string t, .int .i64 0] := by
  unfold showR
  rw [h, if_pos rfl, ← ht, ← bytes_of]

/-- What Parse answers. -/
def parseV : Option E → Value
  | some e => .tuple #[.agg #[.int .i64 e.epoch, .string ⟨e.ver.toArray⟩, .string ⟨e.rel.toArray⟩], .int .i64 0]
  | none => .tuple #[.agg #[.int .i64 0, .string ⟨#[]⟩, .string ⟨#[]⟩], .int .i64 4]
def parseA (s : List UInt8) : Value := parseV (parseE s)
theorem three {w w3 : World} (h : Kept (fun _ => False) w w3) (a b c : Value) : Kept (fun _ => False) w (((w3.setCell ⟨w.heap.size, 0, none⟩ a).setCell ⟨w.heap.size, 1, none⟩ b).setCell ⟨w.heap.size, 2, none⟩ c) :=
  ((h.setCell (p := ⟨w.heap.size, 0, none⟩) (.inr (Nat.le_refl _)) _).setCell (p := ⟨w.heap.size, 1, none⟩) (.inr (Nat.le_refl _)) _).setCell (p := ⟨w.heap.size, 2, none⟩) (.inr (Nat.le_refl _)) _
def MayK3 : Prop := ∀ (n : Int) (v r : ByteArray) (dep : Bool) (w : World), v.size ≤ 1000000 → r.size ≤ 1000000 →
  Calls Tryz.prog 70 #[.agg #[.int .i64 n, .string v, .string r], .bool dep] w fun e w' => e = .returned (.bool (mayE (evrE n v r) dep)) ∧ Kept (fun _ => False) w w'
/-- What Parse answers, in its parts: an EVR that reads as the plain one, or nothing and ErrForm. -/
theorem parse_parts (s : List UInt8) : ∃ (n : Int) (v r : ByteArray) (er : Int), parseA s = .tuple #[.agg #[.int .i64 n, .string v, .string r], .int .i64 er] ∧
    ((er = 0 ∧ parseE s = some (evrE n v r)) ∨ (er = 4 ∧ n = 0 ∧ v = ⟨#[]⟩ ∧ r = ⟨#[]⟩ ∧ parseE s = none)) := by
  unfold parseA
  cases hp : parseE s with
  | none => exact ⟨0, ⟨#[]⟩, ⟨#[]⟩, 4, rfl, .inr ⟨rfl, rfl, rfl, rfl, rfl⟩⟩
  | some e => exact ⟨e.epoch, ⟨e.ver.toArray⟩, ⟨e.rel.toArray⟩, 0, rfl, .inl ⟨rfl, rfl⟩⟩
theorem parse_sizes {s : List UInt8} {n : Int} {v r : ByteArray} (h : parseE s = some (evrE n v r)) : v.size ≤ 64 ∧ r.size ≤ 64 ∧ 0 ≤ n ∧ n ≤ 2147483647 := by
  obtain ⟨h1, h2, h3, h4⟩ := may_parts (show_parse h).1
  have h5 := (word_ok h3).2.2
  refine ⟨h5, ?_, h1, h2⟩
  rcases h4 with h4 | h4
  · have : r.data.toList.length = r.size := rfl
    rw [← this, show r.data.toList = [] from h4]; simp
  · exact (word_ok h4).2.2
/-- A struct in the result's cell. -/
theorem evr_result {fn : Func} {p : Tmp} (h : fn.results = #[.cell p 23]) (tmps : Array Value) (W : World) (g : Nat) (cs : Array Value) (hp : tmps.getD p undef = .pointer (some ⟨g, 0, none⟩)) (hB : Box W g 23 cs) (hs : cs.size = 3) :
    (results fn tmps).run Tryz.prog W = .ok (.agg cs) W :=
  results_cell_row h tmps W g 23 cs (0, 0) _ hp hB Tryz.underlying23 rfl (by rw [hs]; kernel_rfl)
end Go.Proofs.YtlpalepkomkngaaGreatDoor
