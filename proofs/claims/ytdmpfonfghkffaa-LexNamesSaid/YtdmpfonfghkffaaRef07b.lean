/-
  The walk over the document's answer for layer 7: joined words. Conditions: as each theorem states.
-/
import Derived.Test.YtdmpfonfghkffaaRef07
import Derived.Test.YtdmpfonfghkffaaStrKit
namespace Go.Proofs.Ytdmpfonfghkffaa
open Go.RowKit Lex

theorem app_list7 (x y : ByteArray) : (x ++ y).data.toList = x.data.toList ++ y.data.toList := by simp [ByteArray.data_append]
def Prev7 (xs : List ByteArray) (i : Nat) (y : Option (List UInt8)) : Prop := (i = 0 ∧ y = none) ∨ ∃ j z, i = j + 1 ∧ xs[j]? = some z ∧ y = some z.data.toList
abbrev bytesL (xs : List ByteArray) : List (List UInt8) := xs.map (·.data.toList)
theorem eq_lit (x : ByteArray) (l : List UInt8) : (x.toList == l) = decide (x.data.toList = l) := by
  rw [ByteArray.toList_eq]
  by_cases h : x.data.toList = l
  · simp [h]
  · rw [decide_eq_false h, beq_eq_false_iff_ne]
    exact h
set_option maxRecDepth 100000 in
set_option maxHeartbeats 2000000 in
theorem rjoin7_walk (va : Value) (xs : List ByteArray) (w : World) (hx : xs.length ≤ 1000000) (hB : (join (bytesL xs)).length ≤ 100000) (ha : StrS w va xs) :
    Calls Try.prog 16 #[va] w fun e w' => e = .returned (.string ⟨(join (bytesL xs)).toArray⟩) ∧ w' = w := by
  obtain ⟨a1, c1, rfl, h1⟩ := ha
  have H1 := Lib.hid h1
  clear h1
  go_enter Try.func16, Try.ntmps16
  go_wp2_with fail
  go_loopw [3, 4] (fun v3 v4 wr => ∃ (i : Nat) (acc : ByteArray) (y : Option (List UInt8)), v4 = .int .i64 (i : Int) ∧ v3 = .string acc ∧ i ≤ xs.length ∧ Hid (acc.data.toList ++ joinF y ((bytesL xs).drop i) = join (bytesL xs)) ∧ Hid (Prev7 xs i y) ∧ Hid (w = wr)) (fun _ v4 _ => xs.length - (intOf v4).toNat)
  case atStart => exact ⟨0, ⟨#[]⟩, none, rfl, rfl, Nat.zero_le _, Lib.hid rfl, Lib.hid (.inl ⟨rfl, rfl⟩), Lib.hid rfl⟩
  case round =>
    obtain ⟨i, acc, y, rfl, rfl, hi, HP, HY, HW⟩ := hrel
    have hwr := HW.out
    subst hwr
    have hz1 : acc.size ≤ 100000 := by
      have h := congrArg List.length HP.out
      rw [List.length_append] at h
      have e : acc.data.toList.length = acc.size := rfl
      omega
    by_cases hlt : i < xs.length
    · obtain ⟨x, hxu⟩ : ∃ u, xs[i]? = some u := ⟨_, List.getElem?_eq_getElem hlt⟩
      obtain ⟨p1, e1, k1, l1⟩ := H1.out i x hxu
      have hd : (bytesL xs).drop i = x.data.toList :: (bytesL xs).drop (i + 1) := drop_here (by simp [bytesL, hxu])
      have hp := HP.out
      rw [hd, joinF] at hp
      have hz2 : x.size ≤ 100000 := by
        have h := congrArg List.length hp
        simp only [List.length_append] at h
        have e : x.data.toList.length = x.size := rfl
        omega
      have HN := Lib.hid (show Prev7 xs (i + 1) (some x.data.toList) from .inr ⟨i, x, rfl, hxu, rfl⟩)
      have hsp : (⟨#[32]⟩ : ByteArray).data.toList = [32] := rfl
      have none_sep : sep y x.data.toList = [] → (acc ++ x).data.toList ++ joinF (some x.data.toList) ((bytesL xs).drop (i + 1)) = join (bytesL xs) := by
        intro e
        rw [e] at hp
        rw [app_list7, List.append_assoc]
        exact hp
      have one_sep : sep y x.data.toList = [32] → ((acc ++ ⟨#[32]⟩) ++ x).data.toList ++ joinF (some x.data.toList) ((bytesL xs).drop (i + 1)) = join (bytesL xs) := by
        intro e
        rw [e] at hp
        rw [app_list7, app_list7, hsp, List.append_assoc, List.append_assoc]
        exact hp
      have H0 := Lib.hid none_sep
      have HS := Lib.hid one_sep
      have hi0 : (0 : Int) ≤ (i : Int) := by omega
      have hiI : (i : Int) < (xs.length : Int) := by omega
      subst e1
      clear hp hd none_sep one_sep hsp
      rcases HY.out with ⟨h00, hy⟩ | ⟨j, z, hj, hz, hy⟩
      · subst h00
        subst hy
        have kz : w.cell? p1 = some (.string x) := by have := k1; unfold Addr.add at this; simpa using this
        have HP2 := Lib.hid (H0.out rfl)
        clear H0 HS
        go_wp2_with fail
        go_roundw
        case rel => exact ⟨0 + 1, _, some x.data.toList, by go_num, rfl, by omega, HP2, HN, by first | exact Lib.hid trivial | exact Lib.hid rfl⟩
        case measure => simp [intOf]; omega
      · subst hj
        subst hy
        obtain ⟨p2, e2, k2, l2⟩ := H1.out j z hz
        injection e2 with e2
        subst e2
        have ku : w.cell? ⟨p1.block, p1.off + (j + 1), none⟩ = some (.string x) := by have := k1; unfold Addr.add at this; simpa using this
        have hj0 : (0 : Int) < (j : Int) + 1 := by omega
        have hj1 : (0 : Int) ≤ (j : Int) := by omega
        have hjl : (j : Int) < (xs.length : Int) := by omega
        have hw1 : IntKind.i64.wrap ((j : Int) + 1 - 1) = (j : Int) := by rw [Int.add_sub_cancel]; exact IntWalk.i64_in _ ⟨by omega, by omega⟩
        have hw3 : IntKind.i64.wrap (j : Int) = (j : Int) := IntWalk.i64_in _ ⟨by omega, by omega⟩
        have q1 := eq_lit x [41]
        have q2 := eq_lit z [40]
        by_cases b1 : x.data.toList = [41]
        · have HP2 := Lib.hid (H0.out (by simp [sep, b1]))
          rw [decide_eq_true b1] at q1
          clear H0 HS b1 q2
          go_wp2_with fail
          go_roundw
          case rel => exact ⟨j + 1 + 1, _, some x.data.toList, by go_num, rfl, by omega, HP2, HN, by first | exact Lib.hid trivial | exact Lib.hid rfl⟩
          case measure => simp [intOf]; omega
        · rw [decide_eq_false b1] at q1
          by_cases b2 : z.data.toList = [40]
          · have HP2 := Lib.hid (H0.out (by simp [sep, b2]))
            rw [decide_eq_true b2] at q2
            clear H0 HS b1 b2
            go_wp2_with fail
            go_roundw
            case rel => exact ⟨j + 1 + 1, _, some x.data.toList, by go_num, rfl, by omega, HP2, HN, by first | exact Lib.hid trivial | exact Lib.hid rfl⟩
            case measure => simp [intOf]; omega
          · have HP2 := Lib.hid (HS.out (by simp [sep, b1, b2]))
            rw [decide_eq_false b2] at q2
            clear H0 HS b1 b2
            go_wp2_with fail
            go_roundw
            case rel => exact ⟨j + 1 + 1, _, some x.data.toList, by go_num, rfl, by omega, HP2, HN, by first | exact Lib.hid trivial | exact Lib.hid rfl⟩
            case measure => simp [intOf]; omega
    · have HF := Lib.hid (show acc = ⟨(join (bytesL xs)).toArray⟩ by
        have h := HP.out
        rw [List.drop_of_length_le (by simp [bytesL]; omega), joinF, List.append_nil] at h
        rw [← h])
      have hge : ¬ (i : Int) < (xs.length : Int) := by omega
      go_wp2_with fail
      go_ret
      exact ⟨by rw [HF.out]; rfl, rfl⟩
end Go.Proofs.Ytdmpfonfghkffaa
