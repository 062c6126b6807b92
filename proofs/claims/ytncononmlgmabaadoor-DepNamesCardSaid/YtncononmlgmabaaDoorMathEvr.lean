/-
  Plain facts on EVRs (chapter 3): which may be, their texts, the EVR of a text. Nothing of the program is named here. Conditions: as each theorem states.
-/
import Derived.Test.YtncononmlgmabaaDoorMathVer
namespace Go.Proofs.YtncononmlgmabaaDoor
namespace Evr
open Ver

def okB (b : UInt8) : Bool := decide (97 ≤ b.toNat ∧ b.toNat ≤ 122) || decide (65 ≤ b.toNat ∧ b.toNat ≤ 90) || decide (48 ≤ b.toNat ∧ b.toNat ≤ 57) || decide (b.toNat = 46) || decide (b.toNat = 95) || decide (b.toNat = 43) || decide (b.toNat = 126) || decide (b.toNat = 94)
def wordE (s : List UInt8) : Bool := s.all okB && decide (1 ≤ s.length) && decide (s.length ≤ 64)
structure E where
  epoch : Int
  ver : List UInt8
  rel : List UInt8
def mayE (e : E) (dep : Bool) : Bool := decide (0 ≤ e.epoch) && decide (e.epoch ≤ 2147483647) && wordE e.ver && (if e.rel = [] then dep else wordE e.rel)
def dig (n : Nat) : UInt8 := UInt8.ofNat (48 + n % 10)
def digits (n : Nat) : List UInt8 := if _h : n < 10 then [dig n] else digits (n / 10) ++ [dig n]
  termination_by n
  decreasing_by omega
def val (a : List UInt8) : Nat := a.foldl (fun n b => n * 10 + (b.toNat - 48)) 0
def showE (e : E) : List UInt8 := (if 0 < e.epoch then digits e.epoch.toNat ++ [58] else []) ++ e.ver ++ (if e.rel = [] then [] else 45 :: e.rel)
/-- A text ahead of the first such byte, and behind it. -/
def cut (c : UInt8) : List UInt8 → List UInt8 × List UInt8 × Bool
  | [] => ([], [], false)
  | b :: l => if b = c then ([], l, true) else let (x, y, z) := cut c l; (b :: x, y, z)
def isDig (b : UInt8) : Bool := decide (48 ≤ b.toNat) && decide (b.toNat ≤ 57)
def numOk (a : List UInt8) : Bool := decide (1 ≤ a.length) && decide (a.length ≤ 10) && !(a.head? == some 48) && a.all isDig
def parseR (n : Nat) (rest : List UInt8) : Option E :=
  let c := cut 45 rest
  if (c.2.2 = true ∧ c.2.1 = []) ∨ mayE ⟨n, c.1, c.2.1⟩ true = false then none else some ⟨n, c.1, c.2.1⟩
def parseE (s : List UInt8) : Option E :=
  if 200 < s.length then none else
  let c := cut 58 s
  if c.2.2 = true then (if numOk c.1 = true then parseR (val c.1) c.2.1 else none) else parseR 0 c.1

theorem cut_no (c : UInt8) : ∀ l : List UInt8, (∀ b ∈ l, b ≠ c) → cut c l = (l, [], false)
  | [], _ => rfl
  | b :: l, h => by
    rw [cut, if_neg (h b (by simp)), cut_no c l (fun x hx => h x (by simp [hx]))]
theorem cut_at (c : UInt8) : ∀ (x y : List UInt8), (∀ b ∈ x, b ≠ c) → cut c (x ++ c :: y) = (x, y, true)
  | [], y, _ => by rw [List.nil_append, cut, if_pos rfl]
  | b :: x, y, h => by
    rw [List.cons_append, cut, if_neg (h b (by simp)), cut_at c x y (fun z hz => h z (by simp [hz]))]
theorem cut_back (c : UInt8) : ∀ l : List UInt8, ((cut c l).2.2 = true → l = (cut c l).1 ++ c :: (cut c l).2.1) ∧ ((cut c l).2.2 = false → l = (cut c l).1 ∧ (cut c l).2.1 = [])
  | [] => ⟨fun h => (by simp [cut] at h), fun _ => ⟨rfl, rfl⟩⟩
  | b :: l => by
    rw [cut]
    by_cases h : b = c
    · rw [if_pos h]; exact ⟨fun _ => by simp [h], fun h => by simp at h⟩
    · rw [if_neg h]
      obtain ⟨i1, i2⟩ := cut_back c l
      exact ⟨fun hh => by
        have := i1 hh
        simp only [List.cons_append, List.cons.injEq, true_and]
        exact this, fun hh => by
        obtain ⟨j1, j2⟩ := i2 hh
        exact ⟨by simp only [List.cons.injEq, true_and]; exact j1, j2⟩⟩
theorem digits_small {n : Nat} (h : n < 10) : digits n = [dig n] := by rw [digits, dif_pos h]
theorem digits_big {n : Nat} (h : ¬ n < 10) : digits n = digits (n / 10) ++ [dig n] := by rw [digits, dif_neg h]
theorem dig_val (n : Nat) : (dig n).toNat = 48 + n % 10 := by
  unfold dig
  rw [UInt8.toNat_ofNat_of_lt' (by show 48 + n % 10 < 256; omega)]
theorem dig_is (n : Nat) : isDig (dig n) = true := by unfold isDig; rw [dig_val]; simp; omega
theorem val_snoc (a : List UInt8) (b : UInt8) : val (a ++ [b]) = val a * 10 + (b.toNat - 48) := by unfold val; rw [List.foldl_append]; rfl
theorem digits_all : ∀ n, (digits n).all isDig = true := by
  intro n
  induction n using Nat.strongRecOn with
  | _ n ih =>
    by_cases h : n < 10
    · rw [digits_small h]; simp [dig_is]
    · rw [digits_big h]; simp [dig_is]; have := ih (n / 10) (by omega); simpa using this
theorem digits_ne (n : Nat) : digits n ≠ [] := by
  by_cases h : n < 10
  · rw [digits_small h]; simp
  · rw [digits_big h]; simp
theorem digits_val : ∀ n, val (digits n) = n := by
  intro n
  induction n using Nat.strongRecOn with
  | _ n ih =>
    by_cases h : n < 10
    · rw [digits_small h]
      show 0 * 10 + ((dig n).toNat - 48) = n
      rw [dig_val]; omega
    · rw [digits_big h, val_snoc, ih (n / 10) (by omega), dig_val]; omega
theorem digits_head : ∀ n, 0 < n → (digits n).head? ≠ some 48 := by
  intro n
  induction n using Nat.strongRecOn with
  | _ n ih =>
    intro h0
    by_cases h : n < 10
    · rw [digits_small h]
      intro hh
      injection hh with hh
      have := dig_val n
      rw [hh] at this
      have e : (48 : UInt8).toNat = 48 := rfl
      omega
    · rw [digits_big h]
      have := ih (n / 10) (by omega) (by omega)
      have hne := digits_ne (n / 10)
      cases hd : digits (n / 10) with
      | nil => exact absurd hd hne
      | cons b l => rw [hd] at this; simpa using this
theorem digits_len : ∀ k n, n < 10 ^ (k + 1) → (digits n).length ≤ k + 1 := by
  intro k
  induction k with
  | zero => intro n h; rw [digits_small (by simpa using h)]; simp
  | succ k ih =>
    intro n h
    by_cases h10 : n < 10
    · rw [digits_small h10]; simp
    · rw [digits_big h10]
      have := ih (n / 10) (by rw [Nat.pow_succ] at h; omega)
      simp; omega
theorem digits_back : ∀ a : List UInt8, a ≠ [] → a.head? ≠ some 48 → a.all isDig = true → digits (val a) = a ∧ 0 < val a := by
  intro a
  induction h : a.length using Nat.strongRecOn generalizing a with
  | _ n ih =>
    intro hne hh hall
    obtain ⟨x, b, rfl⟩ : ∃ x b, a = x ++ [b] := ⟨a.dropLast, a.getLast hne, (List.dropLast_concat_getLast hne).symm⟩
    have hb : isDig b = true := by simp at hall; exact hall.2
    have hb' : 48 ≤ b.toNat ∧ b.toNat ≤ 57 := by simpa [isDig] using hb
    have hdb : ∀ m, dig (m * 10 + (b.toNat - 48)) = b := by
      intro m
      apply UInt8.toNat_inj.1
      rw [dig_val]; omega
    rw [val_snoc]
    by_cases hx : x = []
    · subst hx
      have hb0 : b.toNat ≠ 48 := by
        intro e
        apply hh
        have : b = 48 := UInt8.toNat_inj.1 (by rw [e]; rfl)
        rw [this]; rfl
      have hv : val [] = 0 := rfl
      rw [hv]
      refine ⟨?_, by omega⟩
      rw [digits_small (by omega), hdb 0]; rfl
    · have hhx : x.head? ≠ some 48 := by
        cases x with
        | nil => exact absurd rfl hx
        | cons c l => simpa using hh
      obtain ⟨j1, j2⟩ := ih x.length (by rw [← h]; simp) x rfl hx hhx (by simp at hall; simpa using hall.1)
      refine ⟨?_, by omega⟩
      rw [digits_big (by omega), hdb, show (val x * 10 + (b.toNat - 48)) / 10 = val x by omega, j1]
theorem ok_not {b : UInt8} (h : okB b = true) : b ≠ 58 ∧ b ≠ 45 := by
  refine ⟨fun e => ?_, fun e => ?_⟩ <;> (subst e; revert h; decide)
theorem word_ok {s : List UInt8} (h : wordE s = true) : (∀ b ∈ s, okB b = true) ∧ 1 ≤ s.length ∧ s.length ≤ 64 := by
  unfold wordE at h
  simp only [Bool.and_eq_true, decide_eq_true_eq, List.all_eq_true] at h
  exact ⟨h.1.1, h.1.2, h.2⟩
theorem may_parts {e : E} (h : mayE e true = true) : 0 ≤ e.epoch ∧ e.epoch ≤ 2147483647 ∧ wordE e.ver = true ∧ (e.rel = [] ∨ wordE e.rel = true) := by
  unfold mayE at h
  simp only [Bool.and_eq_true, decide_eq_true_eq] at h
  refine ⟨h.1.1.1, h.1.1.2, h.1.2, ?_⟩
  by_cases hr : e.rel = []
  · exact .inl hr
  · have := h.2
    rw [if_neg hr] at this
    exact .inr this
theorem dig_not {b : UInt8} (h : isDig b = true) : b ≠ 58 := by
  intro e; subst e; revert h; decide
theorem parseR_show {e : E} (h : mayE e true = true) {n : Nat} (hn : e.epoch = n) : parseR n (e.ver ++ (if e.rel = [] then [] else 45 :: e.rel)) = some e := by
  obtain ⟨_, _, hv, hr⟩ := may_parts h
  have hv' : ∀ b ∈ e.ver, b ≠ 45 := fun b hb => (ok_not ((word_ok hv).1 b hb)).2
  unfold parseR
  have he : (⟨n, e.ver, e.rel⟩ : E) = e := by rw [← hn]
  by_cases h0 : e.rel = []
  · rw [if_pos h0, List.append_nil, cut_no 45 _ hv']
    simp only
    have he' : (⟨n, e.ver, []⟩ : E) = e := by rw [← he, h0]
    rw [if_neg (by rw [he']; simp [h]), he']
  · rw [if_neg h0, cut_at 45 _ _ hv']
    simp only
    rw [if_neg (by rw [he]; simp [h, h0]), he]
/-- Parse of Show. -/
theorem parse_show {e : E} (h : mayE e true = true) : parseE (showE e) = some e := by
  obtain ⟨h0, h1, hv, hr⟩ := may_parts h
  obtain ⟨v1, v2, v3⟩ := word_ok hv
  have hrl : e.rel.length ≤ 64 := by
    rcases hr with hr | hr
    · rw [hr]; simp
    · exact (word_ok hr).2.2
  have hr1 : ∀ b ∈ e.rel, b ≠ 58 := by
    rcases hr with hr | hr
    · rw [hr]; simp
    · exact fun b hb => (ok_not ((word_ok hr).1 b hb)).1
  have hrest : ∀ b ∈ e.ver ++ (if e.rel = [] then [] else 45 :: e.rel), b ≠ 58 := by
    intro b hb
    rcases List.mem_append.1 hb with hb | hb
    · exact (ok_not (v1 b hb)).1
    · split at hb
      · simp at hb
      · rcases List.mem_cons.1 hb with hb | hb
        · subst hb; decide
        · exact hr1 b hb
  have hrlen : (e.ver ++ (if e.rel = [] then [] else 45 :: e.rel)).length ≤ 129 := by
    rw [List.length_append]
    split
    · simp; omega
    · simp; omega
  unfold showE parseE
  by_cases hp : 0 < e.epoch
  · rw [if_pos hp]
    obtain ⟨n, hn⟩ := Int.eq_ofNat_of_zero_le h0
    have hdl := digits_len 9 n (by omega)
    have hda := digits_all n
    have hn' : e.epoch.toNat = n := by omega
    rw [hn', List.append_assoc, List.append_assoc, List.singleton_append]
    rw [if_neg (by simp only [List.length_append, List.length_cons] at hrlen ⊢; omega)]
    rw [cut_at 58 _ _ (fun b hb => dig_not (List.all_eq_true.1 hda b hb))]
    simp only
    rw [if_pos trivial]
    have hok : numOk (digits n) = true := by
      unfold numOk
      have h3 := digits_head n (by omega)
      have h4 : 1 ≤ (digits n).length := by
        have := digits_ne n
        cases hd : digits n with
        | nil => exact absurd hd this
        | cons _ _ => simp
      simp only [hda, Bool.and_true, Bool.and_eq_true, decide_eq_true_eq, Bool.not_eq_true', beq_eq_false_iff_ne]
      exact ⟨⟨h4, by omega⟩, h3⟩
    rw [if_pos hok, digits_val]
    exact parseR_show h hn
  · rw [if_neg hp, List.nil_append]
    rw [if_neg (by omega), cut_no 58 _ hrest]
    simp only [Bool.false_eq_true, if_false]
    exact parseR_show h (by omega)
theorem parseR_back {n : Nat} {rest : List UInt8} {e : E} (h : parseR n rest = some e) : mayE e true = true ∧ e.epoch = n ∧ rest = e.ver ++ (if e.rel = [] then [] else 45 :: e.rel) := by
  unfold parseR at h
  simp only at h
  split at h
  · simp at h
  · rename_i hc
    injection h with h
    subst h
    simp only [not_or, not_and, Bool.not_eq_false] at hc
    obtain ⟨c1, c2⟩ := hc
    refine ⟨c2, rfl, ?_⟩
    obtain ⟨b1, b2⟩ := cut_back 45 rest
    simp only
    cases hz : (cut 45 rest).2.2 with
    | true => rw [if_neg (c1 hz)]; exact b1 hz
    | false =>
      obtain ⟨d1, d2⟩ := b2 hz
      rw [if_pos d2, List.append_nil]; exact d1
/-- Show of Parse. -/
theorem show_parse {s : List UInt8} {e : E} (h : parseE s = some e) : mayE e true = true ∧ showE e = s := by
  unfold parseE at h
  split at h
  · simp at h
  · simp only at h
    obtain ⟨b1, b2⟩ := cut_back 58 s
    cases hz : (cut 58 s).2.2 with
    | true =>
      rw [hz, if_pos rfl] at h
      split at h
      · rename_i hok
        obtain ⟨m1, m2, m3⟩ := parseR_back h
        refine ⟨m1, ?_⟩
        unfold numOk at hok
        simp only [Bool.and_eq_true, decide_eq_true_eq, Bool.not_eq_true', beq_eq_false_iff_ne] at hok
        obtain ⟨⟨⟨k1, k2⟩, k3⟩, k4⟩ := hok
        obtain ⟨j1, j2⟩ := digits_back _ (by intro e0; rw [e0] at k1; simp at k1) k3 k4
        unfold showE
        rw [m2, if_pos (by omega), Int.toNat_natCast, j1, List.append_assoc, ← m3, List.append_assoc, List.singleton_append]
        exact (b1 hz).symm
      · simp at h
    | false =>
      rw [hz] at h
      simp only [Bool.false_eq_true, if_false] at h
      obtain ⟨m1, m2, m3⟩ := parseR_back h
      refine ⟨m1, ?_⟩
      unfold showE
      rw [m2, if_neg (by simp), List.nil_append, ← m3]
      exact (b2 hz).1.symm
/-- How two compare. -/
def cmpE (a b : E) : Int := if a.epoch < b.epoch then -1 else if b.epoch < a.epoch then 1 else
  if cmpV a.ver b.ver ≠ 0 ∨ a.rel = [] ∨ b.rel = [] then cmpV a.ver b.ver else cmpV a.rel b.rel
end Evr
end Go.Proofs.YtncononmlgmabaaDoor
