/-
  What the program's iterator over a text tells: words, and bytes that may not be as words of one byte; what it has to do with the words of the text. No program is named here. The walks over the program's own text of layer 7: a byte's kind, what a text begins with. What a round of a loop over an iterator may turn: some blocks, told by what lies below a bound; all other cells lie as they lay. Nothing of the program is named here. The program's iterator over what a text's words are, and bytes that may not be (layer 7). Conditions: as each theorem states.
-/
import Derived.Test.YtlagnebgoclaeaaGreatDoorK03
import Derived.Test.YtlagnebgoclaeaaGreatDoorK16
import Derived.Test.YtlagnebgoclaeaaGreatDoorRows
import Derived.LoopN
import Derived.Deep.QuietTactic
import Derived.Test.YtlagnebgoclaeaaGreatDoorK04
import Derived.RangeFuncNested
import Derived.RangeFuncBound
import Derived.RangeFuncCalls
import Derived.RangeFuncLeaves
import Derived.RangeFuncBox
import Derived.Shelf.Abstract
import Derived.WalkKit
import Derived.OwnWalkIn
import Derived.TacticsInMore
import Derived.LoopNIn
import Derived.LoopIn
import Derived.BigGuardIn
namespace Go.Proofs.YtlagnebgoclaeaaGreatDoor
namespace Lex

/-- A word that is not empty: its first byte, the others, its place. -/
abbrev Tk := (UInt8 × List UInt8) × Nat
def w2 (t : Tk) : Wd := (t.1.1 :: t.1.2, t.2)
/-- Words, and bytes that may not be, as they come. -/
def toks : Nat → List UInt8 → List Tk
  | _, [] => []
  | p, b :: l =>
    if kind b = 2 then ((b, l.takeWhile k2), p) :: toks (p + 1 + (l.takeWhile k2).length) (l.dropWhile k2)
    else if kind b = 0 then toks (p + 1) l
    else ((b, []), p) :: toks (p + 1) l
  termination_by _ l => l.length
  decreasing_by
    · exact Nat.lt_succ_of_le (List.dropWhile_sublist k2).length_le
    · simp
    · simp
/-- What a text begins with. -/
def hd7 (b : UInt8) (l : List UInt8) : List UInt8 := if kind b = 2 then l.takeWhile k2 else []
theorem toks_nil (p : Nat) : toks p [] = [] := by rw [toks]
theorem drop_take_len {p : UInt8 → Bool} : ∀ l : List UInt8, l.drop (l.takeWhile p).length = l.dropWhile p
  | [] => rfl
  | b :: l => by
    by_cases h : p b = true
    · rw [List.takeWhile_cons_of_pos h, List.dropWhile_cons_of_pos h, List.length_cons, List.drop_succ_cons]
      exact drop_take_len l
    · rw [List.takeWhile_cons_of_neg h, List.dropWhile_cons_of_neg h]
      rfl
theorem toks_step (p : Nat) (b : UInt8) (l : List UInt8) : toks p (b :: l) = (if kind b = 0 then [] else [((b, hd7 b l), p)]) ++ toks (p + 1 + (hd7 b l).length) (l.drop (hd7 b l).length) := by
  rw [toks]
  unfold hd7
  by_cases h2 : kind b = 2
  · rw [if_pos h2, if_pos h2, if_neg (by omega), drop_take_len]
    rfl
  · rw [if_neg h2, if_neg h2]
    by_cases h0 : kind b = 0
    · rw [if_pos h0, if_pos h0]
      rfl
    · rw [if_neg h0, if_neg h0]
      rfl
theorem hd7_len (b : UInt8) (l : List UInt8) : (hd7 b l).length ≤ l.length := by
  unfold hd7
  split
  · exact (List.takeWhile_sublist k2).length_le
  · simp
theorem toks_good : ∀ (n : Nat) (l : List UInt8), l.length ≤ n → (∀ b ∈ l, kind b ≠ 3) → ∀ p, (toks p l).map w2 = cont none p l ∧ ∀ t ∈ toks p l, kind t.1.1 ≠ 3
  | _, [], _, _, p => by rw [toks_nil]; exact ⟨rfl, by simp⟩
  | 0, b :: l, h, _, _ => by simp at h
  | n + 1, b :: l, h, h3, p => by
    have hl : l.length ≤ n := by simpa using h
    have h3' : ∀ c ∈ l, kind c ≠ 3 := fun c hc => h3 c (by simp [hc])
    have hb := h3 b (by simp)
    have hle := kind_le b
    rw [toks]
    by_cases h2 : kind b = 2
    · rw [if_pos h2, cont_word h2 p l h3']
      obtain ⟨i1, i2⟩ := toks_good n (l.dropWhile k2) (Nat.le_trans (List.dropWhile_sublist k2).length_le hl) (fun c hc => h3' c ((List.dropWhile_sublist k2).subset hc)) (p + 1 + (l.takeWhile k2).length)
      refine ⟨?_, ?_⟩
      · rw [List.map_cons, i1]
        rfl
      · intro t ht
        rcases List.mem_cons.1 ht with rfl | ht
        · exact hb
        · exact i2 t ht
    · rw [if_neg h2]
      obtain ⟨i1, i2⟩ := toks_good n l hl h3' (p + 1)
      by_cases h0 : kind b = 0
      · rw [if_pos h0, cont_space none p l h0]
        exact ⟨i1, i2⟩
      · rw [if_neg h0, cont_bracket none p l (by omega)]
        refine ⟨?_, ?_⟩
        · rw [List.map_cons, i1]
          rfl
        · intro t ht
          rcases List.mem_cons.1 ht with rfl | ht
          · exact hb
          · exact i2 t ht
theorem bad_cons (b : UInt8) (l : List UInt8) : bad (b :: l) = if kind b = 3 then some 0 else (bad l).map (· + 1) := rfl
theorem bad_drop : ∀ (l : List UInt8) (i : Nat), bad l = some i → (l.takeWhile k2).length ≤ i ∧ bad (l.dropWhile k2) = some (i - (l.takeWhile k2).length)
  | [], _, h => by simp [bad] at h
  | b :: l, i, h => by
    by_cases hb : k2 b = true
    · rw [List.takeWhile_cons_of_pos hb, List.dropWhile_cons_of_pos hb]
      rw [bad_cons, if_neg (by have : kind b = 2 := by simpa [k2] using hb
                               omega)] at h
      obtain ⟨j, hj, rfl⟩ := Option.map_eq_some_iff.1 h
      obtain ⟨i1, i2⟩ := bad_drop l j hj
      refine ⟨by simp; omega, ?_⟩
      rw [i2]
      congr 1
      simp
    · rw [List.takeWhile_cons_of_neg hb, List.dropWhile_cons_of_neg hb]
      exact ⟨Nat.zero_le _, h⟩
theorem toks_bad : ∀ (n : Nat) (l : List UInt8), l.length ≤ n → ∀ (p i : Nat), bad l = some i → ∃ pre b rest, toks p l = pre ++ ((b, []), p + i) :: rest ∧ kind b = 3 ∧ ∀ t ∈ pre, kind t.1.1 ≠ 3
  | _, [], _, _, _, h => by simp [bad] at h
  | 0, b :: l, h, _, _, _ => by simp at h
  | n + 1, b :: l, h, p, i, hb => by
    have hl : l.length ≤ n := by simpa using h
    rw [toks]
    rw [bad_cons] at hb
    by_cases h3 : kind b = 3
    · rw [if_pos h3] at hb
      injection hb with hb
      subst hb
      rw [if_neg (by omega), if_neg (by omega)]
      exact ⟨[], b, _, rfl, h3, by simp⟩
    · rw [if_neg h3] at hb
      obtain ⟨j, hj, rfl⟩ := Option.map_eq_some_iff.1 hb
      by_cases h2 : kind b = 2
      · rw [if_pos h2]
        obtain ⟨d1, d2⟩ := bad_drop l j hj
        obtain ⟨pre, c, rest, e, hc, hp⟩ := toks_bad n (l.dropWhile k2) (Nat.le_trans (List.dropWhile_sublist k2).length_le hl) (p + 1 + (l.takeWhile k2).length) _ d2
        refine ⟨((b, l.takeWhile k2), p) :: pre, c, rest, ?_, hc, ?_⟩
        · rw [e, show p + 1 + (l.takeWhile k2).length + (j - (l.takeWhile k2).length) = p + (j + 1) by omega]
          rfl
        · intro t ht
          rcases List.mem_cons.1 ht with rfl | ht
          · exact h3
          · exact hp t ht
      · rw [if_neg h2]
        obtain ⟨pre, c, rest, e, hc, hp⟩ := toks_bad n l hl (p + 1) j hj
        have ep : p + 1 + j = p + (j + 1) := by omega
        rw [ep] at e
        by_cases h0 : kind b = 0
        · rw [if_pos h0]
          exact ⟨pre, c, rest, e, hc, hp⟩
        · rw [if_neg h0]
          refine ⟨((b, []), p) :: pre, c, rest, by rw [e]; rfl, hc, ?_⟩
          intro t ht
          rcases List.mem_cons.1 ht with rfl | ht
          · exact h3
          · exact hp t ht
/-- All of them were good: so no byte is bad, and they are the words. -/
theorem toks_all {s : List UInt8} (h : ∀ t ∈ toks 0 s, kind t.1.1 ≠ 3) : bad s = none ∧ (toks 0 s).map w2 = words s := by
  cases hb : bad s with
  | none => exact ⟨rfl, (toks_good s.length s (Nat.le_refl _) (bad_none.1 hb) 0).1⟩
  | some i =>
    obtain ⟨pre, b, rest, e, h3, _⟩ := toks_bad s.length s (Nat.le_refl _) 0 i hb
    exact absurd h3 (h ((b, []), 0 + i) (by rw [e]; simp))
/-- The first that was bad: it is the first bad byte. -/
theorem toks_first {s : List UInt8} {p0 : List Tk} {x : Tk} (h : p0 ++ [x] <+: toks 0 s) (h0 : ∀ t ∈ p0, kind t.1.1 ≠ 3) (h3 : kind x.1.1 = 3) : bad s = some x.2 := by
  obtain ⟨r, hr⟩ := h
  cases hb : bad s with
  | none => exact absurd h3 ((toks_good s.length s (Nat.le_refl _) (bad_none.1 hb) 0).2 x (by rw [← hr]; simp))
  | some i =>
    obtain ⟨pre, b, rest, e, hk, hp⟩ := toks_bad s.length s (Nat.le_refl _) 0 i hb
    rw [Nat.zero_add] at e
    rw [e, List.append_assoc, List.singleton_append] at hr
    have key : ∀ (a c : List Tk) (u v : Tk) (ra rc : List Tk), a ++ u :: ra = c ++ v :: rc → (∀ t ∈ a, kind t.1.1 ≠ 3) → (∀ t ∈ c, kind t.1.1 ≠ 3) → kind u.1.1 = 3 → kind v.1.1 = 3 → u = v := by
      intro a
      induction a with
      | nil =>
        intro c u v ra rc he _ hc hu _
        cases c with
        | nil => injection he
        | cons d c =>
          injection he with h1 _
          exact absurd hu (by rw [h1]; exact hc d (by simp))
      | cons d a ih =>
        intro c u v ra rc he ha hc hu hv
        cases c with
        | nil =>
          injection he with h1 _
          exact absurd hv (by rw [← h1]; exact ha d (by simp))
        | cons d' c =>
          injection he with _ h2
          exact ih c u v ra rc h2 (fun t ht => ha t (by simp [ht])) (fun t ht => hc t (by simp [ht])) hu hv
    rw [key p0 pre x ((b, []), i) _ _ hr h0 hp h3 hk]
theorem toks_len : ∀ (n : Nat) (l : List UInt8), l.length ≤ n → ∀ p, (toks p l).length ≤ l.length
  | _, [], _, p => by rw [toks_nil]; simp
  | 0, b :: l, h, _ => by simp at h
  | n + 1, b :: l, h, p => by
    have hl : l.length ≤ n := by simpa using h
    rw [toks]
    split
    · have := toks_len n (l.dropWhile k2) (Nat.le_trans (List.dropWhile_sublist k2).length_le hl) (p + 1 + (l.takeWhile k2).length)
      have := (List.dropWhile_sublist (l := l) k2).length_le
      simp only [List.length_cons]
      omega
    · have := toks_len n l hl (p + 1)
      split <;> simp only [List.length_cons] <;> omega
end Lex
end Go.Proofs.YtlagnebgoclaeaaGreatDoor

namespace Go.Proofs.YtlagnebgoclaeaaGreatDoor
open Go.RowKit Lex

/-- The program's number of a byte's kind. -/
def kp (b : UInt8) : Nat := (kind b + 1) % 4
set_option maxRecDepth 100000 in
set_option maxHeartbeats 1000000 in
theorem lkind_walk (b : UInt8) (w : World) : Calls Tryz.prog 48 #[.int .u8 (b.toNat : Int)] w fun e w' => e = .returned (.int .u8 (kp b : Int)) ∧ w' = w := by
  by_cases h32 : b.toNat = 32
  · have HF := Lib.hid (show kp b = 1 by unfold kp kind; simp [h32])
    have e1 : ((b.toNat : Int) == 32) = true := by simp; omega
    clear h32
    go_enter Tryz.func48, Tryz.ntmps48
    go_wp2_with fail
    go_ret
    exact ⟨by rw [HF.out]; rfl, rfl⟩
  · have e1 : ((b.toNat : Int) == 32) = false := by simp; omega
    by_cases h40 : b.toNat = 40
    · have HF := Lib.hid (show kp b = 2 by unfold kp kind; simp [h40])
      have e2 : ((b.toNat : Int) == 40) = true := by simp; omega
      clear h32 h40
      go_enter Tryz.func48, Tryz.ntmps48
      go_wp2_with fail
      go_ret
      exact ⟨by rw [HF.out]; rfl, rfl⟩
    · have e2 : ((b.toNat : Int) == 40) = false := by simp; omega
      by_cases h41 : b.toNat = 41
      · have HF := Lib.hid (show kp b = 2 by unfold kp kind; simp [h41])
        have e3 : ((b.toNat : Int) == 41) = true := by simp; omega
        clear h32 h40 h41
        go_enter Tryz.func48, Tryz.ntmps48
        go_wp2_with fail
        go_ret
        exact ⟨by rw [HF.out]; rfl, rfl⟩
      · have e3 : ((b.toNat : Int) == 41) = false := by simp; omega
        by_cases h33 : 33 ≤ b.toNat
        · by_cases h126 : b.toNat ≤ 126
          · have HF := Lib.hid (show kp b = 3 by unfold kp kind; simp [h32, h40, h41, h33, h126])
            have g1 : (33 : Int) ≤ (b.toNat : Int) := by omega
            have g2 : (b.toNat : Int) ≤ 126 := by omega
            clear h32 h40 h41 h33 h126
            go_enter Tryz.func48, Tryz.ntmps48
            go_wp2_with fail
            go_ret
            exact ⟨by rw [HF.out]; rfl, rfl⟩
          · have HF := Lib.hid (show kp b = 0 by unfold kp kind; simp [h32, h40, h41, h126])
            have g1 : (33 : Int) ≤ (b.toNat : Int) := by omega
            have g2 : ¬ (b.toNat : Int) ≤ 126 := by omega
            clear h32 h40 h41 h33 h126
            go_enter Tryz.func48, Tryz.ntmps48
            go_wp2_with fail
            go_ret
            exact ⟨by rw [HF.out]; rfl, rfl⟩
        · have HF := Lib.hid (show kp b = 0 by unfold kp kind; simp [h32, h40, h41, h33])
          have g1 : ¬ (33 : Int) ≤ (b.toNat : Int) := by omega
          clear h32 h40 h41 h33
          go_enter Tryz.func48, Tryz.ntmps48
          go_wp2_with fail
          go_ret
          exact ⟨by rw [HF.out]; rfl, rfl⟩
theorem kp_three {b : UInt8} : kp b = 3 ↔ kind b = 2 := by unfold kp; have := kind_le b; omega
theorem kp_one {b : UInt8} : kp b = 1 ↔ kind b = 0 := by unfold kp; have := kind_le b; omega
theorem kp_zero {b : UInt8} : kp b = 0 ↔ kind b = 3 := by unfold kp; have := kind_le b; omega
theorem k2_iff {b : UInt8} : k2 b = true ↔ kind b = 2 := by unfold k2; simp
theorem take_at : ∀ {l : List UInt8} {m : Nat} {c : UInt8}, m < (l.takeWhile k2).length → l[m]? = some c → kind c = 2
  | [], _, _, h, _ => by simp at h
  | b :: l, m, c, h, hc => by
    by_cases hb : k2 b = true
    · cases m with
      | zero => simp at hc; subst hc; exact k2_iff.1 hb
      | succ m =>
        rw [List.takeWhile_cons_of_pos hb] at h
        exact take_at (l := l) (by simpa using h) (by simpa using hc)
    · rw [List.takeWhile_cons_of_neg hb] at h
      simp at h
theorem take_end : ∀ {l : List UInt8} {c : UInt8}, l[(l.takeWhile k2).length]? = some c → kind c ≠ 2
  | [], _, h => by simp at h
  | b :: l, c, hc => by
    by_cases hb : k2 b = true
    · rw [List.takeWhile_cons_of_pos hb] at hc
      exact take_end (l := l) (by simpa using hc)
    · rw [List.takeWhile_cons_of_neg hb] at hc
      simp at hc
      subst hc
      intro h
      exact hb (k2_iff.2 h)
/-- What a text that is not empty begins with. -/
theorem tok_take (b : UInt8) (l : List UInt8) : (b :: l).take (max ((b :: l).takeWhile k2).length 1) = b :: hd7 b l := by
  unfold hd7
  by_cases h : kind b = 2
  · rw [if_pos h, List.takeWhile_cons_of_pos (k2_iff.2 h), List.length_cons, show max ((l.takeWhile k2).length + 1) 1 = (l.takeWhile k2).length + 1 by omega, List.take_succ_cons]
    congr 1
    have : ∀ l : List UInt8, l.take (l.takeWhile k2).length = l.takeWhile k2 := by
      intro l
      induction l with
      | nil => rfl
      | cons c l ih =>
        by_cases hc : k2 c = true
        · rw [List.takeWhile_cons_of_pos hc, List.length_cons, List.take_succ_cons, ih]
        · rw [List.takeWhile_cons_of_neg hc]; rfl
    exact this l
  · rw [if_neg h, List.takeWhile_cons_of_neg (fun e => h (k2_iff.1 e))]
    rfl
set_option maxRecDepth 100000 in
set_option maxHeartbeats 1000000 in
theorem lfirst_walk (s : ByteArray) (b : UInt8) (l : List UInt8) (hsl : s.data.toList = b :: l) (w : World) (hs : s.size ≤ 1000000) :
    Calls Tryz.prog 69 #[.string s] w fun e w' => e = .returned (.string ⟨(b :: hd7 b l).toArray⟩) ∧ w' = w := by
  obtain ⟨T, hT⟩ : ∃ T, T = (s.data.toList.takeWhile k2).length := ⟨_, rfl⟩
  have hsz : s.data.toList.length = s.size := rfl
  have hle : T ≤ s.size := by
    have := (List.takeWhile_sublist (l := s.data.toList) k2).length_le
    omega
  have hpos : 1 ≤ s.size := by rw [← hsz, hsl]; simp
  have hat : ∀ m (hm : m < s.size) (c : UInt8), m < T → c = s[m] → kind c = 2 := fun m hm c h1 h2 => take_at (l := s.data.toList) (by omega) (char_at hm h2)
  have hend : ∀ (hm : T < s.size) (c : UInt8), c = s[T] → kind c ≠ 2 := fun hm c h2 => take_end (l := s.data.toList) (by rw [← hT]; exact char_at hm h2)
  obtain ⟨u, hu⟩ : ∃ u, u = s.extract 0 (max T 1) := ⟨_, rfl⟩
  have hF : u = ⟨(b :: hd7 b l).toArray⟩ := by
    have hTk := tok_take b l
    rw [hu, extract_list]
    show (⟨((s.data.toList.drop 0).take _).toArray⟩ : ByteArray) = _
    rw [Nat.sub_zero, List.drop_zero, hsl, hT, hsl, hTk]
  have HF := Lib.hid hF
  have HA := Lib.hid hat
  have HE := Lib.hid hend
  have HU := Lib.hid hu
  clear hT hsz hF hat hend hsl hu
  go_enter Tryz.func69, Tryz.ntmps69
  go_wp2_with fail
  go_loopw [3] (fun v wr => ∃ m : Nat, v = .int .i64 (m : Int) ∧ m ≤ T ∧ Hid (w = wr)) (fun v _ => s.size - (intOf v).toNat)
  case atStart => exact ⟨0, rfl, Nat.zero_le _, Lib.hid rfl⟩
  case round =>
    obtain ⟨m, rfl, hmT, HW⟩ := hrel
    have hwr := HW.out
    subst hwr
    by_cases hms : m < s.size
    · obtain ⟨c, hc⟩ : ∃ c, c = s[m] := ⟨_, rfl⟩
      by_cases hmR : m < T
      · have hkc := kp_three.2 (HA.out m hms c hmR hc)
        have hkw := fun W => lkind_walk c W
        rw [hkc] at hkw
        have hc' : s[m] = c := hc.symm
        clear hc hkc
        go_wp2_with (go_at_call 48; refine (hkw _).mono ?_; rintro e w' ⟨rfl, hww⟩; have hwx := Eq.symm hww; clear hww; subst hwx)
        go_roundw
        case rel => exact ⟨m + 1, by go_num, by omega, by first | exact Lib.hid trivial | exact Lib.hid rfl⟩
        case measure => simp [intOf]; omega
      · have hmT' : m = T := by omega
        subst hmT'
        have hkc : kp c ≠ 3 := fun h => HE.out hms c hc (kp_three.1 h)
        have hc' : s[m] = c := hc.symm
        clear hc
        have hkb : ((kp c : Int) == 3) = false := by simp; omega
        have hx : s.extract 0 (max m 1) = u := HU.out.symm
        rcases Nat.eq_zero_or_pos m with h0 | h0
        · subst h0
          have hx1 : s.extract 0 1 = u := hx
          clear hx
          go_wp2_with (go_at_call 48; refine (lkind_walk c _).mono ?_; rintro e w' ⟨rfl, hww⟩; have hwx := Eq.symm hww; clear hww; subst hwx)
          go_ret
          exact ⟨by rw [← HF.out]; rfl, rfl⟩
        · have hm1 : max m 1 = m := by omega
          rw [hm1] at hx
          have hmx : max (m : Int) 1 = (m : Int) := by omega
          have hmI : (1 : Int) ≤ (m : Int) := by omega
          go_wp2_with (go_at_call 48; refine (lkind_walk c _).mono ?_; rintro e w' ⟨rfl, hww⟩; have hwx := Eq.symm hww; clear hww; subst hwx)
          go_ret
          exact ⟨by rw [← HF.out]; rfl, rfl⟩
    · have hmT' : m = T := by omega
      subst hmT'
      have hms' : m = s.size := by omega
      have hx : s.extract 0 (max m 1) = u := HU.out.symm
      have hm1 : max m 1 = m := by omega
      rw [hm1] at hx
      have HUS := Lib.hid (show u = s by rw [← hx, hms']; exact ByteArray.extract_zero_size)
      clear hx
      have hmx : max (m : Int) 1 = (m : Int) := by omega
      have hmI : (1 : Int) ≤ (m : Int) := by omega
      go_wp2_with fail
      go_ret
      exact ⟨by rw [← HF.out, HUS.out]; rfl, rfl⟩
end Go.Proofs.YtlagnebgoclaeaaGreatDoor

namespace Go.Proofs.YtlagnebgoclaeaaGreatDoor
open Go.RowKit

/-- Which blocks may turn hangs on what lies below n₀ alone. -/
def Mut (n₀ : Nat) (M : World → Nat → Prop) : Prop := ∀ W W' : World, (∀ k, k < n₀ → W'.heap[k]? = W.heap[k]?) → ∀ i, M W' i → M W i
/-- They are there. -/
def There (M : World → Nat → Prop) (W : World) : Prop := ∀ i, M W i → i < W.heap.size
/-- What a round keeps. -/
structure KpM (M : World → Nat → Prop) (W W' : World) : Prop where
  size : W.heap.size ≤ W'.heap.size
  cells : ∀ i o, W.heap[i]? = some o → o.isCells = true → ¬ M W i → W'.heap[i]? = some o
  turn : ∀ i, M W' i → M W i ∨ (W.heap.size ≤ i ∧ i < W'.heap.size)
section
variable {n₀ : Nat} {M : World → Nat → Prop} {A B C W W' w : World}
theorem KpM.refl (M : World → Nat → Prop) (W : World) : KpM M W W := ⟨Nat.le_refl _, fun _ _ h _ _ => h, fun _ h => .inl h⟩
theorem KpM.trans (h : KpM M A B) (k : KpM M B C) : KpM M A C :=
  ⟨Nat.le_trans h.size k.size,
   fun i o hi ho hm => k.cells i o (h.cells i o hi ho hm) ho (fun hb => by
     rcases h.turn i hb with hb | ⟨hb, _⟩
     · exact hm hb
     · have := (Array.getElem?_eq_some_iff.1 hi).1
       omega),
   fun i hi => by
     rcases k.turn i hi with hi | ⟨h1, h2⟩
     · rcases h.turn i hi with hi | ⟨h1, h2⟩
       · exact .inl hi
       · have := k.size
         exact .inr ⟨h1, by omega⟩
     · have := h.size
       exact .inr ⟨by omega, h2⟩⟩
theorem KpM.putObj (hM : Mut n₀ M) (hn : n₀ ≤ w.heap.size) (W : World) (l : Nat) (o o' : Obj) (hl : w.heap.size ≤ l) (h : W.heap[l]? = some o) (hc : o.isCells = false) (_ : o.isWalk = false) : KpM M W (W.putObj l o') := by
  have hg := grownBy_putObj' W l o'
  refine ⟨hg.size, fun i o2 hi ho _ => ?_, fun i hi => .inl (hM W _ (fun k hk => ?_) i hi)⟩
  · refine (hg.block i (Array.getElem?_eq_some_iff.1 hi).1 (fun e => ?_)).trans hi
    cases e
    rw [h] at hi
    cases hi
    rw [hc] at ho
    cases ho
  · have := (Array.getElem?_eq_some_iff.1 h).1
    exact hg.block k (by omega) (fun e => by cases e; omega)
theorem KpM.of_kept (hM : Mut n₀ M) (hn : n₀ ≤ W.heap.size) (h : Kept (fun _ => False) W W') : KpM M W W' :=
  ⟨h.size, fun i o hi _ _ => (h.block i (Array.getElem?_eq_some_iff.1 hi).1 (fun h => h)).trans hi,
   fun i hi => .inl (hM W W' (fun k hk => h.block k (by omega) (fun h => h)) i hi)⟩
theorem There.kept (h : There M W) (k : KpM M W W') : There M W' := fun i hi => by
  rcases k.turn i hi with hi | ⟨_, hi⟩
  · exact Nat.lt_of_lt_of_le (h i hi) k.size
  · exact hi
theorem KpM.box {g : Nat} {t : TypeId} {cs : Array Value} (k : KpM M W W') (h : Box W g t cs) (hg : ¬ M W g) : Box W' g t cs := k.cells g _ h rfl hg
theorem KpM.not (k : KpM M W W') {g : Nat} (h : g < W.heap.size) (hg : ¬ M W g) : ¬ M W' g := fun hh => by
  rcases k.turn g hh with hi | ⟨hi, _⟩
  · exact hg hi
  · omega
theorem Kept.grownNone (h : Kept (fun _ => False) W W') : W.grownBy W' none := ⟨h.os, h.tape, h.output, h.size, fun k hk _ => h.block k hk (fun h => h)⟩
theorem Kept.others (h : Kept (fun _ => False) W W') : KeepsOthers W W' := ⟨h.size, fun k _ hk _ => (h.block k (Array.getElem?_eq_some_iff.1 hk).1 (fun h => h)).trans hk⟩
/-- A block that is new is none of those that may turn. -/
theorem KpM.fresh (hM : Mut n₀ M) (hn : n₀ ≤ W.heap.size) (hT : There M W) (h : Kept (fun _ => False) W W') {g : Nat} (hg : W.heap.size ≤ g) : ¬ M W' g ∧ There M W' := by
  have k := KpM.of_kept hM hn h
  refine ⟨fun hh => ?_, hT.kept k⟩
  have := hT g (hM W W' (fun k hk => h.block k (by omega) (fun h => h)) g hh)
  omega
/-- fresh_box -/
theorem abides {β : Type} {J : β → World → Prop} {n : Nat} (hJ : AbidesFrom n J) {s : β} (hs : J s W) (h : Kept (fun _ => False) W W') : J s W' := hJ s W W' none hs h.grownNone (fun _ e => by cases e)
/-- Two named blocks, and no more. -/
theorem mut_const (n₀ : Nat) (S : Nat → Prop) : Mut n₀ (fun _ i => S i) := fun _ _ _ _ h => h
/-- A box that holds a slice, and what that owns. -/
def OwnB (B : Nat) (W : World) (i : Nat) : Prop := i = B ∨ ∃ v, W.cell? ⟨B, 0, none⟩ = some v ∧ v.ownBlock = some i
theorem mut_own {n₀ B : Nat} (h : B < n₀) : Mut n₀ (OwnB B) := fun W W' hk i hi => by
  rcases hi with hi | ⟨v, h1, h2⟩
  · exact .inl hi
  · exact .inr ⟨v, by rw [← h1]; exact (World.cell?_of_block (a := ⟨B, 0, none⟩) (hk B h)).symm, h2⟩
/-- An append onto what the box holds, stored there. -/
theorem KpM.appended {Bo : Nat} {t e : TypeId} {v v' : Value} {tmp : Obj} {w1 : World} {base size n : Nat} {xs : List Value} (hv : Boxed W Bo t v) (hg : (W.alloc tmp).grownBy w1 v.ownBlock)
    (hb : v'.ownBlock = v.ownBlock ∨ v'.ownBlock = some (W.alloc tmp).heap.size) (hr : w1.ownsRow base e size v' n xs) (hv1 : Boxed w1 Bo t v) : KpM (OwnB Bo) W (w1.setCell ⟨Bo, 0, none⟩ v') := by
  have hs1 := hg.size
  rw [World.size_alloc] at hs1
  have hss : (w1.setCell ⟨Bo, 0, none⟩ v').heap.size = w1.heap.size := by simp [World.setCell]
  have hnew := (hv1.set v').cell
  refine ⟨by omega, fun i o hi _ hm => ?_, fun i hi => ?_⟩
  · have hlt := (Array.getElem?_eq_some_iff.1 hi).1
    have hne : i ≠ Bo := fun e => hm (.inl e)
    have hno : some i ≠ v.ownBlock := fun e => hm (.inr ⟨v, hv.cell, e.symm⟩)
    refine (Below.heap_setCell w1 _ _ i (fun e => hne e)).trans ?_
    refine (hg.block i (by rw [World.size_alloc]; omega) hno).trans ?_
    exact (Below.heap_alloc W tmp i hlt).trans hi
  · rcases hi with hi | ⟨u, h1, h2⟩
    · exact .inl (.inl hi)
    · rw [hnew] at h1
      cases h1
      rcases hb with hb | hb
      · exact .inl (.inr ⟨v, hv.cell, by rw [← hb]; exact h2⟩)
      · right
        have h3 := (hr.lt i h2).2
        rw [hb, World.size_alloc] at h2
        cases h2
        omega
theorem kept_own {β : Type} {w : World} {B : Nat} (h : w.heap.size ≤ B) : OwnFrom B (fun (_ : β) W => Kept (fun _ => False) w W) := fun _ _ _ _ hs hg hr => hs.grown hg (fun i hi => .inr (Nat.le_trans h (hr i hi).1))
theorem box_own {β : Type} (B g : Nat) (t : TypeId) (f : β → Array Value) : OwnFrom B (fun s W => Box W g t (f s)) := fun s X Y row hs hg hr => by
  refine (hg.block g hs.lt (fun e => ?_)).trans hs
  obtain ⟨o, ho, hc⟩ := (hr g e.symm).2
  rw [show X.heap[g]? = _ from hs] at ho
  cases ho
  cases hc
end
end Go.Proofs.YtlagnebgoclaeaaGreatDoor

namespace Go.Proofs.YtlagnebgoclaeaaGreatDoor
open Go.RowKit Lex Go.Shelf
attribute [local go_sem] Oper.semAt_some

theorem wordsOf_in (n : Nat) (s : ByteArray) (w : World) :
    CallsIn Fence.wide n Tryz.prog 46 #[.string s] w fun e w' => e = .returned (.func (.func 68) #[] #[.pointer (some ⟨w.heap.size, 0, none⟩)]) ∧ w' = w.alloc (.cells #[.string s] 9) := by
  refine callsIn_of_wp Tryz.func46 rfl trivial ?_ rfl
  simp only [Tryz.ntmps46, List.size_toArray, List.length_cons, List.length_nil, Nat.reduceAdd, Nat.reduceSub, Array.replicate_succ, Array.replicate_zero, List.push_toArray, List.append_toArray, List.nil_append, List.cons_append]
  gi_wp2
  go_ret
  exact ⟨rfl, rfl⟩

abbrev encT (p : Tk) : Array Value := #[.int .i64 (p.2 : Int), .string ⟨(p.1.1 :: p.1.2).toArray⟩]
theorem head_at (b : UInt8) (l : List UInt8) (h : 0 < (⟨(b :: l).toArray⟩ : ByteArray).size) : (⟨(b :: l).toArray⟩ : ByteArray)[0] = b := rfl

set_option maxRecDepth 100000 in
set_option maxHeartbeats 2000000 in
theorem toks_iter (n : Nat) (hn : 1 ≤ n) (l Bn : Nat) (M : World → Nat → Prop) (s : ByteArray) (hs : s.size ≤ 1000000) (J Jx : List Tk → World → Prop) (W : World)
    (hY : ∀ pre x W, J pre W → pre.length < (toks 0 s.data.toList).length → YieldAt Fence.wide (n - 1) Tryz.prog l (encT x) W fun e W' =>
      (e = .returned (.bool true) ∧ J (pre ++ [x]) W' ∧ KpM M W W') ∨ (e = .returned (.bool false) ∧ Jx (pre ++ [x]) W'))
    (hBn : Boxed W Bn 9 (.string s)) (hMB : ¬ M W Bn) (h0 : J [] W) :
    CallsIn Fence.wide n Tryz.prog 68 #[.func (.yield l) #[] #[], .pointer (some ⟨Bn, 0, none⟩)] W fun e W' => (∃ v, e = .returned v) ∧
      ((∃ ys, ys = toks 0 s.data.toList ∧ J ys W') ∨ (∃ pre, pre <+: toks 0 s.data.toList ∧ Jx pre W')) := by
  refine callsIn_of_wp Tryz.func68 rfl trivial ?_ rfl
  simp only [Tryz.ntmps68, List.size_toArray, List.length_cons, List.length_nil, Nat.reduceAdd, Nat.reduceSub, Array.replicate_succ, Array.replicate_zero, List.push_toArray, List.append_toArray, List.nil_append, List.cons_append]
  have Hs := Lib.hid hs
  have hsl : s.data.toList.length = s.size := rfl
  have HSL := Lib.hid hsl
  clear hsl
  gi_wp2
  gi_loopw [3] (fun v3 wr => ∃ (pre : List Tk) (j : Nat), v3 = .int .i64 (j : Int) ∧ j ≤ s.size ∧ Boxed wr Bn 9 (.string s) ∧ ¬ M wr Bn ∧ J pre wr ∧ Hid (toks 0 s.data.toList = pre ++ toks j (s.data.toList.drop j))) (fun v3 _ => s.size - (intOf v3).toNat)
  case atStart => exact ⟨[], 0, rfl, Nat.zero_le _, hBn, hMB, h0, Lib.hid rfl⟩
  case round =>
    obtain ⟨pre, j, rfl, hj, hB, hMr, hJr, HP⟩ := hrel
    rename World => wr
    have c0 := hB.cell
    by_cases hlt : j < s.size
    · obtain ⟨b, hb⟩ : ∃ b, b = s[j] := ⟨_, rfl⟩
      have hd : s.data.toList.drop j = b :: s.data.toList.drop (j + 1) := drop_here (char_at hlt hb)
      obtain ⟨t, ht⟩ : ∃ t, t = s.data.toList.drop (j + 1) := ⟨_, rfl⟩
      rw [← ht] at hd
      obtain ⟨s1, hs1⟩ : ∃ s1, s1 = s.extract j s.size := ⟨_, rfl⟩
      have hx : s.extract j s.size = s1 := hs1.symm
      have hs1l : s1.data.toList = b :: t := by
        rw [hs1, extract_list]
        show (s.data.toList.drop j).take _ = _
        rw [List.take_of_length_le (by simp), hd]
      have hs1z : s1.size ≤ 1000000 := by rw [hs1, ByteArray.size_extract]; omega
      have htl := hd7_len b t
      have htn : t.length + (j + 1) = s.size := by
        rw [ht, List.length_drop, HSL.out]; omega
      have F1 := fun W => lfirst_walk s1 b t hs1l W hs1z
      have hstep := HP.out
      rw [hd, toks_step] at hstep
      obtain ⟨u, hu⟩ : ∃ u : ByteArray, u = ⟨(b :: hd7 b t).toArray⟩ := ⟨_, rfl⟩
      have huz : u.size = (hd7 b t).length + 1 := by rw [hu]; simp [ByteArray.size]
      have hup : 0 < u.size := by omega
      have hu0 : ∀ h : 0 < u.size, u[0] = b := by rw [hu]; exact fun h => head_at b _ h
      rw [← hu] at F1
      have hdr : t.drop (hd7 b t).length = s.data.toList.drop (j + 1 + (hd7 b t).length) := by rw [ht, List.drop_drop]
      rw [hdr] at hstep
      have HU := Lib.hid hu
      have HST := Lib.hid hstep
      have huj : j + u.size ≤ s.size := by omega
      have hje : j + 1 + (hd7 b t).length = j + u.size := by omega
      rw [hje] at HST
      have hjI : (j : Int) < (s.size : Int) := by omega
      clear hb hd ht hs1 hs1l hstep hu hdr hje htl htn huz HP
      by_cases hk0 : kind b = 0
      · have K1 := fun W => lkind_walk b W
        rw [kp_one.2 hk0] at K1
        rw [if_pos hk0, List.nil_append] at HST
        clear hk0
        gi_wp2_with (first
          | (refine ⟨trivial, ?_⟩; gi_at_call 69; refine (callsIn_wide.2 (F1 _)).mono ?_; rintro e w4 ⟨rfl, hww⟩; have hwx := Eq.symm hww; clear hww; subst hwx)
          | (refine ⟨trivial, ?_⟩; gi_at_call 48; refine (callsIn_wide.2 (K1 _)).mono ?_; rintro e w5 ⟨rfl, hww⟩; have hwx := Eq.symm hww; clear hww; subst hwx))
        refine ⟨fun _ h => (by cases h), ?_⟩
        gi_wp2
        go_roundw
        case rel => exact ⟨pre, j + u.size, by go_num, huj, hB, hMr, hJr, HST⟩
        case measure => simp [intOf]; omega
      · have K1 := fun W => lkind_walk b W
        have hkn : kp b ≠ 1 := fun h => hk0 (kp_one.1 h)
        have hkb : ((kp b : Int) != 1) = true := by simp; omega
        rw [if_neg hk0] at HST
        obtain ⟨fn, tmps, assign, body, hy, hR⟩ := hY pre ((b, hd7 b t), j) wr hJr (by rw [HST.out]; simp)
        rw [show encT ((b, hd7 b t), j) = #[.int .i64 (j : Int), .string u] by rw [HU.out]] at hy
        clear hk0 hkn hY
        gi_wp2_with (first
          | (refine ⟨trivial, ?_⟩; gi_at_call 69; refine (callsIn_wide.2 (F1 _)).mono ?_; rintro e w4 ⟨rfl, hww⟩; have hwx := Eq.symm hww; clear hww; subst hwx)
          | (refine ⟨trivial, ?_⟩; gi_at_call 48; refine (callsIn_wide.2 (K1 _)).mono ?_; rintro e w5 ⟨rfl, hww⟩; have hwx := Eq.symm hww; clear hww; subst hwx))
        refine hR.mono ?_
        rintro e W3 (⟨rfl, hJ3, hk3⟩ | ⟨rfl, hJx3⟩)
        · have hB3 : Boxed W3 Bn 9 (.string s) := hk3.box hB hMr
          have hM3 := hk3.not hB.lt hMr
          gi_wp2
          go_roundw
          case rel => exact ⟨pre ++ [((b, hd7 b t), j)], j + u.size, by go_num, huj, hB3, hM3, hJ3, Lib.hid (by rw [HST.out]; simp)⟩
          case measure => simp [intOf]; omega
        · gi_wp2
          refine bodyPost_ret (results_none rfl _ _ _) rfl ?_
          exact ⟨⟨_, rfl⟩, .inr ⟨pre ++ [((b, hd7 b t), j)], ⟨toks (j + u.size) (s.data.toList.drop (j + u.size)), by rw [HST.out]; simp⟩, hJx3⟩⟩
    · have hge : j = s.size := by omega
      have HE := Lib.hid (show toks 0 s.data.toList = pre by
        have := HP.out
        rw [hge, ← HSL.out, List.drop_length, toks_nil, List.append_nil] at this
        exact this)
      have hjI : ¬ (j : Int) < (s.size : Int) := by omega
      clear hge HP
      gi_wp2
      go_end0
      exact ⟨⟨_, rfl⟩, .inl (by first | exact ⟨pre, HE.out.symm, hJr⟩ | (rw [HE.out]; exact hJr))⟩

theorem toks_stops (n : Nat) (hn : 1 ≤ n) (Bn n₀ : Nat) (M : World → Nat → Prop) (hM : Mut n₀ M) (s : ByteArray) (hs : s.size ≤ 1000000) (w : World) (hB : Boxed w Bn 9 (.string s)) (hMB : ¬ M w Bn) (hn₀ : n₀ ≤ w.heap.size) :
    SeqStopsK Fence.wide n Tryz.prog 68 #[.pointer (some ⟨Bn, 0, none⟩)] encT (KpM M) (fun ys => ys = toks 0 s.data.toList) (fun pre => pre <+: toks 0 s.data.toList) (toks 0 s.data.toList).length w := fun l J Jx W hW _ _ hY h0 =>
  toks_iter n hn l Bn M s hs J Jx W hY ((hW.block Bn hB.lt).trans hB) (fun h => hMB (hM w W (fun k hk => hW.block k (by omega)) Bn h)) h0
end Go.Proofs.YtlagnebgoclaeaaGreatDoor
