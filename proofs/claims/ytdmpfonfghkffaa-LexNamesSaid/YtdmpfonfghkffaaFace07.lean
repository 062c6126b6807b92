/-
  The walks over the helpers of the laws of layer 7: long, plain, many. Conditions: as each theorem states.
-/
import Derived.Test.YtdmpfonfghkffaaRef07b
namespace Go.Proofs.Ytdmpfonfghkffaa
open Go.RowKit Lex

def weigh : List ByteArray → Nat
  | [] => 0
  | x :: l => x.size + 1 + weigh l
theorem weigh_app : ∀ a b : List ByteArray, weigh (a ++ b) = weigh a + weigh b
  | [], _ => by simp [weigh]
  | x :: a, b => by simp [weigh, weigh_app a b]; omega
theorem weigh_next {xs : List ByteArray} {i : Nat} {x : ByteArray} (h : xs[i]? = some x) : weigh (xs.take (i + 1)) = weigh (xs.take i) + x.size + 1 := by
  rw [List.take_add_one, h, weigh_app]
  simp [weigh]
  omega
theorem weigh_take (xs : List ByteArray) (i : Nat) : weigh (xs.take i) ≤ weigh xs := by
  have h := weigh_app (xs.take i) (xs.drop i)
  rw [List.take_append_drop] at h
  omega
theorem weigh_total : ∀ xs : List ByteArray, weigh xs = total (bytesL xs) + xs.length
  | [] => rfl
  | x :: l => by
    have := weigh_total l
    have e : x.data.toList.length = x.size := rfl
    simp only [weigh, bytesL, List.map_cons, total, List.length_cons] at this ⊢
    omega
set_option maxRecDepth 100000 in
set_option maxHeartbeats 1000000 in
theorem long7_walk (va : Value) (xs : List ByteArray) (w : World) (hx : xs.length < 140737488355328) (hsz : ∀ (i : Nat) u, xs[i]? = some u → u.size < 140737488355328) (ha : StrS w va xs) :
    Calls Try.prog 14 #[va] w fun e w' => e = .returned (.bool (decide (3000 ≤ weigh xs))) ∧ w' = w := by
  obtain ⟨a1, c1, rfl, h1⟩ := ha
  have H1 := Lib.hid h1
  have HZ := Lib.hid hsz
  clear h1 hsz
  go_enter Try.func14, Try.ntmps14
  go_wp2_with fail
  go_loopw [3, 4] (fun v3 v4 wr => ∃ i m : Nat, v4 = .int .i64 (i : Int) ∧ v3 = .int .i64 (m : Int) ∧ i ≤ xs.length ∧ Hid (m = weigh (xs.take i)) ∧ m < 140737488359000 ∧ Hid (w = wr)) (fun _ v4 _ => xs.length - (intOf v4).toNat)
  case atStart => exact ⟨0, 0, rfl, rfl, Nat.zero_le _, Lib.hid rfl, by decide, Lib.hid rfl⟩
  case round =>
    obtain ⟨i, m, rfl, rfl, hi, HM, hm, HW⟩ := hrel
    have hwr := HW.out
    subst hwr
    by_cases hlt : i < xs.length
    · have hiI : (i : Int) < (xs.length : Int) := by omega
      by_cases hm3 : m < 3000
      · have hmI : (m : Int) < 3000 := by omega
        obtain ⟨x, hxu⟩ : ∃ u, xs[i]? = some u := ⟨_, List.getElem?_eq_getElem hlt⟩
        obtain ⟨p1, e1, k1, l1⟩ := H1.out i x hxu
        have hz := HZ.out i x hxu
        have HN := Lib.hid (show m + 1 + x.size = weigh (xs.take (i + 1)) by rw [weigh_next hxu, ← HM.out]; omega)
        subst e1
        clear hxu
        go_wp2_with fail
        go_roundw
        case rel => exact ⟨i + 1, m + 1 + x.size, by go_num, by go_num, by omega, HN, by omega, by first | exact Lib.hid trivial | exact Lib.hid rfl⟩
        case measure => simp [intOf]; omega
      · have hmI : ¬ (m : Int) < 3000 := by omega
        have hmJ : (3000 : Int) ≤ (m : Int) := by omega
        have HF := Lib.hid (show decide (3000 ≤ weigh xs) = true by
          have := weigh_take xs i
          have h2 := HM.out
          exact decide_eq_true (by omega))
        go_wp2_with fail
        go_ret
        exact ⟨by rw [HF.out]; rfl, rfl⟩
    · have hiI : ¬ (i : Int) < (xs.length : Int) := by omega
      have hmw : m = weigh xs := by
        have := HM.out
        rw [List.take_of_length_le (by omega)] at this
        exact this
      by_cases hm3 : 3000 ≤ m
      · have HF := Lib.hid (show decide (3000 ≤ weigh xs) = true by rw [← hmw]; exact decide_eq_true hm3)
        have hmJ : (3000 : Int) ≤ (m : Int) := by omega
        clear hmw
        go_wp2_with fail
        go_ret
        exact ⟨by rw [HF.out]; rfl, rfl⟩
      · have HF := Lib.hid (show decide (3000 ≤ weigh xs) = false by rw [← hmw]; exact decide_eq_false hm3)
        have hmJ : ¬ (3000 : Int) ≤ (m : Int) := by omega
        clear hmw
        go_wp2_with fail
        go_ret
        exact ⟨by rw [HF.out]; rfl, rfl⟩
theorem kind_two {b : UInt8} : kind b = 2 ↔ (33 ≤ b.toNat ∧ b.toNat ≤ 126 ∧ b.toNat ≠ 40 ∧ b.toNat ≠ 41) := by
  unfold kind
  constructor
  · intro h
    split at h
    · omega
    · split at h
      · omega
      · split at h <;> omega
  · intro h
    rw [if_neg (by omega), if_neg (by omega), if_pos (by omega)]
theorem plain_other {x : List UInt8} (h1 : x ≠ [40]) (h2 : x ≠ [41]) : plain x = (decide (x ≠ []) && x.all fun b => decide (kind b = 2)) := by
  unfold plain
  simp [h1, h2]
theorem plain_here {x : List UInt8} {i : Nat} {b : UInt8} (h1 : x ≠ [40]) (h2 : x ≠ [41]) (hb : x[i]? = some b) (h : kind b ≠ 2) : plain x = false := by
  rw [plain_other h1 h2]
  have : (x.all fun b => decide (kind b = 2)) = false := by
    rw [← Bool.not_eq_true, List.all_eq_true]
    intro hall
    have := hall b (List.mem_of_getElem? hb)
    simp at this
    exact h this
  rw [this, Bool.and_false]
set_option maxRecDepth 100000 in
set_option maxHeartbeats 1000000 in
theorem plain7_walk (s : ByteArray) (w : World) (hs : s.size ≤ 1000000) :
    Calls Try.prog 17 #[.string s] w fun e w' => e = .returned (.bool (plain s.data.toList)) ∧ w' = w := by
  have q1 := eq_lit s [40]
  have q2 := eq_lit s [41]
  by_cases h1 : s.data.toList = [40]
  · have HF := Lib.hid (show plain s.data.toList = true by rw [h1]; rfl)
    rw [decide_eq_true h1] at q1
    clear h1 q2
    go_enter Try.func17, Try.ntmps17
    go_wp2_with fail
    go_ret
    exact ⟨by rw [HF.out]; rfl, rfl⟩
  · rw [decide_eq_false h1] at q1
    by_cases h2 : s.data.toList = [41]
    · have HF := Lib.hid (show plain s.data.toList = true by rw [h2]; rfl)
      rw [decide_eq_true h2] at q2
      clear h1 h2
      go_enter Try.func17, Try.ntmps17
      go_wp2_with fail
      go_ret
      exact ⟨by rw [HF.out]; rfl, rfl⟩
    · rw [decide_eq_false h2] at q2
      have N1 := Lib.hid h1
      have N2 := Lib.hid h2
      have HSL := Lib.hid (show s.data.toList.length = s.size from rfl)
      clear h1 h2
      go_enter Try.func17, Try.ntmps17
      go_wp2_with fail
      go_loopw [3] (fun v3 wr => ∃ i : Nat, v3 = .int .i64 (i : Int) ∧ i ≤ s.size ∧ Hid ((s.data.toList.take i).all (fun b => decide (kind b = 2)) = true) ∧ Hid (w = wr)) (fun v3 _ => s.size - (intOf v3).toNat)
      case atStart => exact ⟨0, rfl, Nat.zero_le _, Lib.hid rfl, Lib.hid rfl⟩
      case round =>
        obtain ⟨i, rfl, hi, HA, HW⟩ := hrel
        have hwr := HW.out
        subst hwr
        by_cases hlt : i < s.size
        · obtain ⟨b, hb⟩ : ∃ b, b = s[i] := ⟨_, rfl⟩
          have HC := Lib.hid (char_at hlt hb)
          have hc' : s[i] = b := hb.symm
          clear hb
          by_cases hk : kind b = 2
          · obtain ⟨g1, g2, g3, g4⟩ := kind_two.1 hk
            have c1 : ¬ (b.toNat : Int) < 33 := by omega
            have c2 : ¬ (126 : Int) < (b.toNat : Int) := by omega
            have c3 : ((b.toNat : Int) == 40) = false := by simp; omega
            have c4 : ((b.toNat : Int) == 41) = false := by simp; omega
            have HB := Lib.hid (show (s.data.toList.take (i + 1)).all (fun b => decide (kind b = 2)) = true by
              rw [List.take_add_one, HC.out, List.all_append, HA.out]
              simp [hk])
            clear g1 g2 g3 g4 hk
            go_wp2_with fail
            go_roundw
            case rel => exact ⟨i + 1, by go_num, by omega, HB, by first | exact Lib.hid trivial | exact Lib.hid rfl⟩
            case measure => simp [intOf]; omega
          · have HF := Lib.hid (plain_here N1.out N2.out HC.out hk)
            have hc : b.toNat < 33 ∨ (33 ≤ b.toNat ∧ 126 < b.toNat) ∨ (33 ≤ b.toNat ∧ b.toNat ≤ 126 ∧ b.toNat = 40) ∨ (33 ≤ b.toNat ∧ b.toNat ≤ 126 ∧ b.toNat ≠ 40 ∧ b.toNat = 41) := by
              rw [kind_two] at hk
              omega
            clear hk
            rcases hc with h | ⟨h, h'⟩ | ⟨h, h', h''⟩ | ⟨h, h', h'', h3⟩
            · have c1 : (b.toNat : Int) < 33 := by omega
              clear h
              go_wp2_with fail
              go_ret
              exact ⟨by rw [HF.out]; rfl, rfl⟩
            · have c1 : ¬ (b.toNat : Int) < 33 := by omega
              have c2 : (126 : Int) < (b.toNat : Int) := by omega
              clear h h'
              go_wp2_with fail
              go_ret
              exact ⟨by rw [HF.out]; rfl, rfl⟩
            · have c1 : ¬ (b.toNat : Int) < 33 := by omega
              have c2 : ¬ (126 : Int) < (b.toNat : Int) := by omega
              have c3 : ((b.toNat : Int) == 40) = true := by simp; omega
              clear h h' h''
              go_wp2_with fail
              go_ret
              exact ⟨by rw [HF.out]; rfl, rfl⟩
            · have c1 : ¬ (b.toNat : Int) < 33 := by omega
              have c2 : ¬ (126 : Int) < (b.toNat : Int) := by omega
              have c3 : ((b.toNat : Int) == 40) = false := by simp; omega
              have c4 : ((b.toNat : Int) == 41) = true := by simp; omega
              clear h h' h'' h3
              go_wp2_with fail
              go_ret
              exact ⟨by rw [HF.out]; rfl, rfl⟩
        · obtain rfl : i = s.size := by omega
          have HB := Lib.hid (show (s.data.toList).all (fun b => decide (kind b = 2)) = true by
            have h := HA.out
            rw [← HSL.out, List.take_length] at h
            exact h)
          by_cases he : s = ⟨#[]⟩
          · subst he
            have HF := Lib.hid (show plain (⟨#[]⟩ : ByteArray).data.toList = false from rfl)
            go_wp2_with fail
            go_ret
            exact ⟨by rw [HF.out]; rfl, rfl⟩
          · have HF := Lib.hid (show plain s.data.toList = true by
              rw [plain_other N1.out N2.out, HB.out, Bool.and_true]
              exact decide_eq_true (fun e => he (by cases s; cases ‹Array UInt8›; simp_all)))
            have hne : s.toList.isEmpty = false := by
              rw [ByteArray.toList_eq]
              cases h : s.data.toList with
              | nil => exact absurd (show s = ⟨#[]⟩ by cases s; cases ‹Array UInt8›; simp_all) he
              | cons a l => rfl
            clear he
            go_wp2_with fail
            go_ret
            exact ⟨by rw [HF.out]; rfl, rfl⟩
end Go.Proofs.Ytdmpfonfghkffaa
