/-
  Plain facts on EVRs and their texts as the program reads them: the digits, a cut, a number, what stands where. Nothing of the program is named here. Conditions: as each theorem states.
-/
import Derived.Test.YtncononmlgmabaaDoorMathEvr
import Derived.Lib.ItoaNum
import Derived.Lib.IndexMore
import Derived.Lib.Bytealg
import Derived.Lib.AtoiAll
import Derived.Lib.AtoiAllCases
namespace Go.Proofs.YtncononmlgmabaaDoor
namespace Evr
open Ver

theorem dec_digits : ∀ n, Lib.decDigits n = digits n := by
  intro n
  induction n using Nat.strongRecOn with
  | _ n ih =>
    by_cases h : n < 10
    · rw [Lib.decDigits, dif_pos h, digits_small h]
      unfold dig
      rw [Nat.mod_eq_of_lt h]
    · rw [Lib.decDigits, dif_neg h, digits_big h, ih (n / 10) (by omega)]
      rfl
theorem itoa_digits {n : Int} (h : 0 < n) : Lib.itoa n = digits n.toNat := by
  unfold Lib.itoa
  rw [if_neg (by omega), dec_digits]
theorem index_one (c : UInt8) : ∀ l : List UInt8, (Lib.index l [c] = -1 ∧ cut c l = (l, [], false)) ∨ ∃ i : Nat, Lib.index l [c] = i ∧ cut c l = (l.take i, l.drop (i + 1), true)
  | [] => .inl ⟨rfl, rfl⟩
  | b :: l => by
    rw [cut, Lib.index]
    by_cases h : b = c
    · subst h
      exact .inr ⟨0, by simp, by simp⟩
    · rw [if_neg h]
      have h1 : ([c].isPrefixOf (b :: l)) = false := by
        have h2 : (c == b) = false := by simp; exact fun e => h e.symm
        simp [List.isPrefixOf, h2]
      rw [h1]
      rcases index_one c l with ⟨h2, h3⟩ | ⟨i, h2, h3⟩
      · rw [h2, h3]; exact .inl ⟨rfl, rfl⟩
      · rw [h2, h3]
        refine .inr ⟨i + 1, ?_, by simp⟩
        have h4 : ((i : Int) == -1) = false := by rw [beq_eq_false_iff_ne]; omega
        simp [h4]
theorem lib_cut (c : UInt8) (l : List UInt8) : Lib.cut l [c] = cut c l := by
  unfold Lib.cut
  rcases index_one c l with ⟨h2, h3⟩ | ⟨i, h2, h3⟩
  · rw [h2, h3, if_neg (by omega)]
  · rw [h2, h3, if_pos (by omega)]
    simp
/-- The number that a text reads as: 0 where it is none, the greatest or the least where it is too large. -/
def numV (l : List UInt8) : Int := match Lib.atoiAll l with | .ok v => v | .range => Lib.atoiSat l | _ => 0
theorem uint_val : ∀ (l : List UInt8) (acc : Nat), l.all isDig = true → (∀ k, k ≤ l.length → acc * 10 ^ k < 1844674407370955162 ∨ k = l.length) → l.foldl (fun n b => n * 10 + (b.toNat - 48)) acc < 1844674407370955162 → Lib.parseUint10 acc l = .ok (l.foldl (fun n b => n * 10 + (b.toNat - 48)) acc)
  | [], acc, _, _, _ => rfl
  | b :: l, acc, hd, _, hv => by
    have hd' : isDig b = true ∧ l.all isDig = true := by simpa using hd
    have hb : 48 ≤ b.toNat ∧ b.toNat ≤ 57 := by have := hd'.1; unfold isDig at this; simpa using this
    have mono : ∀ (l : List UInt8) (a : Nat), a ≤ l.foldl (fun n b => n * 10 + (b.toNat - 48)) a := by
      intro l
      induction l with
      | nil => intro a; exact Nat.le_refl _
      | cons c l ih => intro a; exact Nat.le_trans (by omega) (ih (a * 10 + (c.toNat - 48)))
    have hm := mono l (acc * 10 + (b.toNat - 48))
    have hv' : l.foldl (fun n b => n * 10 + (b.toNat - 48)) (acc * 10 + (b.toNat - 48)) < 1844674407370955162 := hv
    rw [Lib.parseUint10, if_pos hb, if_neg (by omega), if_neg (by omega)]
    exact uint_val l _ hd'.2 (fun k hk => by
      by_cases h : k = l.length
      · exact .inr h
      · refine .inl ?_
        have pw : ∀ (l : List UInt8) (a k : Nat), k ≤ l.length → a * 10 ^ k ≤ l.foldl (fun n b => n * 10 + (b.toNat - 48)) a := by
          intro l
          induction l with
          | nil => intro a k hk; have : k = 0 := by simpa using hk
                   subst this; simp
          | cons c l ih =>
            intro a k hk
            cases k with
            | zero => simpa using mono (c :: l) a
            | succ k =>
              have h1 := ih (a * 10 + (c.toNat - 48)) k (by simpa using hk)
              refine Nat.le_trans ?_ h1
              rw [Nat.pow_succ, Nat.mul_comm (10 ^ k) 10, ← Nat.mul_assoc]
              exact Nat.mul_le_mul_right _ (by omega)
        exact Nat.lt_of_le_of_lt (pw l _ k hk) hv') hv'
theorem num_digits {n : Nat} (h : n ≤ 2147483647) : numV (digits n) = n := by
  unfold numV
  have hall := digits_all n
  have hne := digits_ne n
  have hv := digits_val n
  cases hd : digits n with
  | nil => exact absurd hd hne
  | cons b l =>
    rw [hd] at hall hv
    have hb : 48 ≤ b.toNat ∧ b.toNat ≤ 57 := by
      have : isDig b = true := by have h2 : isDig b = true ∧ l.all isDig = true := by simpa using hall
                                  exact h2.1
      unfold isDig at this; simpa using this
    have hu : Lib.parseMag (b :: l) = .ok n := by
      have h1 := uint_val (b :: l) 0 hall (fun k _ => .inl (by omega)) (by show val (b :: l) < _; omega)
      unfold Lib.parseMag
      rw [if_neg (by simp), h1]
      show Lib.NumEnd.ok (val (b :: l)) = _
      rw [hv]
    rw [Lib.atoiAll_plain b l (by omega) (by omega), hu]
    have hs : Lib.signless (Lib.NumEnd.ok n) = Lib.NumEnd.ok (n : Int) := by
      unfold Lib.signless
      simp only
      rw [if_neg (by omega)]
    rw [hs]
/-- What stands in a text for an epoch, a version, a release. -/
def splitE (s : List UInt8) : E :=
  if (cut 58 s).2.2 = true then ⟨numV (cut 58 s).1, (cut 45 (cut 58 s).2.1).1, (cut 45 (cut 58 s).2.1).2.1⟩ else ⟨0, (cut 45 s).1, (cut 45 s).2.1⟩
theorem tail_cut {e : E} (h : mayE e true = true) : (cut 45 (e.ver ++ (if e.rel = [] then [] else 45 :: e.rel))).1 = e.ver ∧ (cut 45 (e.ver ++ (if e.rel = [] then [] else 45 :: e.rel))).2.1 = e.rel := by
  obtain ⟨_, _, h3, _⟩ := may_parts h
  have hv : ∀ b ∈ e.ver, b ≠ 45 := fun b hb => (ok_not ((word_ok h3).1 b hb)).2
  by_cases hr : e.rel = []
  · rw [if_pos hr, List.append_nil, cut_no 45 e.ver hv, hr]
    exact ⟨rfl, rfl⟩
  · rw [if_neg hr, cut_at 45 e.ver e.rel hv]
    exact ⟨rfl, rfl⟩
theorem split_show {e : E} (h : mayE e true = true) : splitE (showE e) = e := by
  obtain ⟨h1, h2, h3, h4⟩ := may_parts h
  obtain ⟨t1, t2⟩ := tail_cut h
  unfold showE
  by_cases h0 : 0 < e.epoch
  · rw [if_pos h0]
    have e1 : digits e.epoch.toNat ++ [58] ++ e.ver ++ (if e.rel = [] then [] else 45 :: e.rel) = digits e.epoch.toNat ++ 58 :: (e.ver ++ (if e.rel = [] then [] else 45 :: e.rel)) := by simp
    have hd : ∀ b ∈ digits e.epoch.toNat, b ≠ 58 := fun b hb => dig_not (List.all_eq_true.1 (digits_all _) b hb)
    unfold splitE
    rw [e1, cut_at 58 _ _ hd, if_pos rfl]
    show E.mk (numV (digits e.epoch.toNat)) (cut 45 (e.ver ++ (if e.rel = [] then [] else 45 :: e.rel))).1 (cut 45 (e.ver ++ (if e.rel = [] then [] else 45 :: e.rel))).2.1 = e
    have he : ((e.epoch.toNat : Nat) : Int) = e.epoch := by omega
    rw [t1, t2, num_digits (by omega), he]
  · rw [if_neg h0, List.nil_append]
    have hn : ∀ b ∈ e.ver ++ (if e.rel = [] then [] else 45 :: e.rel), b ≠ 58 := by
      intro b hb
      rcases List.mem_append.1 hb with hb | hb
      · exact (ok_not ((word_ok h3).1 b hb)).1
      · by_cases hr : e.rel = []
        · rw [if_pos hr] at hb; cases hb
        · rw [if_neg hr] at hb
          rcases List.mem_cons.1 hb with rfl | hb
          · decide
          · rcases h4 with h4 | h4
            · exact absurd h4 hr
            · exact (ok_not ((word_ok h4).1 b hb)).1
    unfold splitE
    have he : (0 : Int) = e.epoch := by omega
    rw [cut_no 58 _ hn, if_neg (by simp), t1, t2, he]
theorem parse_split (s : List UInt8) : parseE s = if mayE (splitE s) true = true ∧ showE (splitE s) = s then some (splitE s) else none := by
  by_cases h : mayE (splitE s) true = true ∧ showE (splitE s) = s
  · rw [if_pos h]
    have h1 := parse_show h.1
    rw [h.2] at h1
    exact h1
  · rw [if_neg h]
    cases hp : parseE s with
    | none => rfl
    | some e =>
      obtain ⟨h1, h2⟩ := show_parse hp
      have h3 := split_show h1
      rw [h2] at h3
      exact absurd ⟨by rw [h3]; exact h1, by rw [h3]; exact h2⟩ h
/-- A byte that is no letter and no digit, among the signs. -/
theorem sign_index (b : UInt8) : decide (0 ≤ Lib.indexByte [46, 95, 43, 126, 94] b) = (decide (b.toNat = 46) || decide (b.toNat = 95) || decide (b.toNat = 43) || decide (b.toNat = 126) || decide (b.toNat = 94)) := by
  have key : ((List.range 256).all fun n => decide (0 ≤ Lib.indexByte [46, 95, 43, 126, 94] (UInt8.ofNat n)) == (decide (n = 46) || decide (n = 95) || decide (n = 43) || decide (n = 126) || decide (n = 94))) = true := by kernel_rfl
  have h := List.all_eq_true.1 key b.toNat (List.mem_range.2 (UInt8.toNat_lt b))
  have hb : UInt8.ofNat b.toNat = b := by simp
  rw [hb] at h
  simpa using h
end Evr
end Go.Proofs.YtncononmlgmabaaDoor
