/-
  What is asked of Join (layer 7): words put together. Conditions: as each theorem states.
-/
import Derived.Test.YtdmpfonfghkffaaBldKit
import Derived.Test.YtdmpfonfghkffaaWorks07
namespace Go.Proofs.Ytdmpfonfghkffaa
open Go.RowKit Lex

set_option maxRecDepth 100000 in
set_option maxHeartbeats 2000000 in
theorem join_walk (va : Value) (xs : List ByteArray) (w : World) (hx : xs.length ≤ 1000000) (hB : (join (bytesL xs)).length ≤ 100000) (ha : StrS w va xs) :
    Calls Try.prog 11 #[va] w fun e w' => e = .returned (.string ⟨(join (bytesL xs)).toArray⟩) ∧ Kept (fun _ => False) w w' := by
  have HA := Lib.hid ha
  obtain ⟨a1, c1, rfl, h1⟩ := ha
  have H1 := Lib.hid h1
  have HJ := Lib.hid hB
  clear h1 hB
  have HB0 := Lib.hid (show Bld w.heap.size w.heap.size (Lib.byteCells []) (w.alloc (.cells #[.pointer none, .slice none 0 0] 47)) from Lib.IsBuilderF.of (Lib.fresh_isBuilder 47 5 w))
  go_enter Try.func11, Try.ntmps11
  go_wp2_with fail
  go_loopw [8] (fun v8 wr => ∃ (i : Nat) (acc : List UInt8) (y : Option (List UInt8)), v8 = .int .i64 (i : Int) ∧ i ≤ xs.length ∧ Hid (acc ++ joinF y ((bytesL xs).drop i) = join (bytesL xs)) ∧ Hid (Prev7 xs i y) ∧ Hid (Bld w.heap.size w.heap.size (Lib.byteCells acc) wr) ∧ Hid (Kept (fun _ => False) w wr)) (fun v8 _ => xs.length - (intOf v8).toNat)
  case atStart => exact ⟨0, [], none, rfl, Nat.zero_le _, Lib.hid rfl, Lib.hid (.inl ⟨rfl, rfl⟩), HB0, Lib.hid ((Kept.refl _ _).alloc _)⟩
  case round =>
    obtain ⟨i, acc, y, rfl, hi, HP, HY, HB, HK⟩ := hrel
    rename World => wr
    have hz1 : acc.length ≤ 100000 := by
      have h := congrArg List.length HP.out
      rw [List.length_append] at h
      have := HJ.out
      omega
    have HS := Lib.hid HK.out.size
    by_cases hlt : i < xs.length
    · obtain ⟨x, hxu⟩ : ∃ u, xs[i]? = some u := ⟨_, List.getElem?_eq_getElem hlt⟩
      obtain ⟨p1, e1, k1, l1⟩ := H1.out i x hxu
      have hd : (bytesL xs).drop i = x.data.toList :: (bytesL xs).drop (i + 1) := drop_here (by simp [bytesL, hxu])
      have hp := HP.out
      rw [hd, joinF] at hp
      have hz2 : x.size ≤ 100000 := by
        have h := congrArg List.length hp
        simp only [List.length_append] at h
        have e : x.data.toList.length = x.size := rfl
        have := HJ.out
        omega
      have HN := Lib.hid (show Prev7 xs (i + 1) (some x.data.toList) from .inr ⟨i, x, rfl, hxu, rfl⟩)
      have none_sep : sep y x.data.toList = [] → (acc ++ x.data.toList) ++ joinF (some x.data.toList) ((bytesL xs).drop (i + 1)) = join (bytesL xs) := by
        intro e
        rw [e] at hp
        rw [List.append_assoc]
        exact hp
      have one_sep : sep y x.data.toList = [32] → ((acc ++ [32]) ++ x.data.toList) ++ joinF (some x.data.toList) ((bytesL xs).drop (i + 1)) = join (bytesL xs) := by
        intro e
        rw [e] at hp
        rw [List.append_assoc, List.append_assoc]
        exact hp
      have H0 := Lib.hid none_sep
      have HS1 := Lib.hid one_sep
      have hi0 : (0 : Int) ≤ (i : Int) := by omega
      have hiI : (i : Int) < (xs.length : Int) := by omega
      have k1w : wr.cell? (p1.add i) = some (.string x) := (HK.out.cell (p := p1.add i) (by rw [add_block]; exact l1) (fun h => h)).trans k1
      subst e1
      clear hp hd none_sep one_sep k1 l1
      rcases HY.out with ⟨h00, hy⟩ | ⟨j, z, hj, hz, hy⟩
      · subst h00
        subst hy
        have kz : wr.cell? p1 = some (.string x) := by have := k1w; unfold Addr.add at this; simpa using this
        have HP2 := Lib.hid (H0.out rfl)
        go_wp2_with (first
          | (go_at_call 19; refine (bw_text _ acc x _ HB.out (by first | omega | (simp; omega)) (by omega) (by have := HS.out; omega)).mono ?_; rintro e w6 ⟨rfl, hl6, hb6⟩; have HK := Lib.hid (kept_past HK.out hb6 (Nat.le_refl _)); have HB := Lib.hid hl6; clear hl6 hb6)
          | fail)
        go_roundw
        case rel => exact ⟨0 + 1, _, some x.data.toList, by go_num, by omega, HP2, HN, HB, HK⟩
        case measure => simp [intOf]; omega
      · subst hj
        subst hy
        obtain ⟨p2, e2, k2, l2⟩ := H1.out j z hz
        injection e2 with e2
        subst e2
        have k2w : wr.cell? (p1.add j) = some (.string z) := (HK.out.cell (p := p1.add j) (by rw [add_block]; exact l2) (fun h => h)).trans k2
        have ku : wr.cell? ⟨p1.block, p1.off + (j + 1), none⟩ = some (.string x) := by have := k1w; unfold Addr.add at this; simpa using this
        have hj0 : (0 : Int) < (j : Int) + 1 := by omega
        have hj1 : (0 : Int) ≤ (j : Int) := by omega
        have hjl : (j : Int) < (xs.length : Int) := by omega
        have hw1 : IntKind.i64.wrap ((j : Int) + 1 - 1) = (j : Int) := by rw [Int.add_sub_cancel]; exact IntWalk.i64_in _ ⟨by omega, by omega⟩
        have hw3 : IntKind.i64.wrap (j : Int) = (j : Int) := IntWalk.i64_in _ ⟨by omega, by omega⟩
        have q1 := eq_lit x [41]
        have q2 := eq_lit z [40]
        clear k2 l2
        by_cases b2 : z.data.toList = [40]
        · rw [decide_eq_true b2] at q2
          have HP2 := Lib.hid (H0.out (by simp [sep, b2]))
          clear b2 q1
          go_wp2_with (first
            | (go_at_call 19; refine (bw_text _ acc x _ HB.out (by first | omega | (simp; omega)) (by omega) (by have := HS.out; omega)).mono ?_; rintro e w6 ⟨rfl, hl6, hb6⟩; have HK := Lib.hid (kept_past HK.out hb6 (Nat.le_refl _)); have HB := Lib.hid hl6; clear hl6 hb6)
            | fail)
          go_roundw
          case rel => exact ⟨j + 1 + 1, _, some x.data.toList, by go_num, by omega, HP2, HN, HB, HK⟩
          case measure => simp [intOf]; omega
        · rw [decide_eq_false b2] at q2
          by_cases b1 : x.data.toList = [41]
          · rw [decide_eq_true b1] at q1
            have HP2 := Lib.hid (H0.out (by simp [sep, b1]))
            clear b1 b2
            go_wp2_with (first
              | (go_at_call 19; refine (bw_text _ acc x _ HB.out (by first | omega | (simp; omega)) (by omega) (by have := HS.out; omega)).mono ?_; rintro e w6 ⟨rfl, hl6, hb6⟩; have HK := Lib.hid (kept_past HK.out hb6 (Nat.le_refl _)); have HB := Lib.hid hl6; clear hl6 hb6)
              | fail)
            go_roundw
            case rel => exact ⟨j + 1 + 1, _, some x.data.toList, by go_num, by omega, HP2, HN, HB, HK⟩
            case measure => simp [intOf]; omega
          · rw [decide_eq_false b1] at q1
            have HP2 := Lib.hid (HS1.out (by simp [sep, b1, b2]))
            clear b1 b2
            go_wp2_with (first
              | (go_at_call 18; refine (bw_byte _ acc 32 32 rfl _ HB.out (by first | omega | (simp; omega)) (by have := HS.out; omega)).mono ?_; rintro e w5 ⟨rfl, hl5, hb5⟩; have HK := Lib.hid (kept_past HK.out hb5 (Nat.le_refl _)); have HS := Lib.hid (Nat.le_trans HS.out hb5.size); have HB := Lib.hid hl5; clear hl5 hb5)
              | (go_at_call 19; refine (bw_text _ (acc ++ [32]) x _ HB.out (by first | omega | (simp; omega)) (by omega) (by have := HS.out; omega)).mono ?_; rintro e w6 ⟨rfl, hl6, hb6⟩; have HK := Lib.hid (kept_past HK.out hb6 (Nat.le_refl _)); have HB := Lib.hid hl6; clear hl6 hb6)
              | fail)
            go_roundw
            case rel => exact ⟨j + 1 + 1, _, some x.data.toList, by go_num, by omega, HP2, HN, HB, HK⟩
            case measure => simp [intOf]; omega
    · have HF := Lib.hid (show acc = join (bytesL xs) by
        have h := HP.out
        rw [List.drop_of_length_le (by simp [bytesL]; omega), joinF, List.append_nil] at h
        exact h)
      have hge : ¬ (i : Int) < (xs.length : Int) := by omega
      have HX := Lib.hid (btext_walk w.heap.size w.heap.size acc _ HB.out (by have := HS.out; omega))
      go_wp2_with (go_at_call 20; refine HX.out.mono ?_; rintro e w7 ⟨rfl, hb⟩; have HK := Lib.hid (kept_past HK.out hb (Nat.le_refl _)); clear hb)
      go_ret
      exact ⟨by rw [← HF.out]; rfl, HK.out⟩
/-- What is asked of Join. -/
theorem join_k (w0 : World) : JoinK7 w0 := fun va xs W hx hB _ ha => join_walk va xs W hx hB ha
end Go.Proofs.Ytdmpfonfghkffaa
