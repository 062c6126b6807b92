/-
  Plain facts on the parts of a version, and how versions compare (chapter 2): nothing of the program is named here. Plain facts on EVRs (chapter 3): which may be, their texts, the EVR of a text. Nothing of the program is named here. Plain facts for the laws of layer 3: EVRs in a row. Nothing of the program is named here. Plain facts on ranges of versions (chapter 4): an Op's bits, an EVR in a range, two ranges that meet. Nothing of the program is named here. Plain facts on plain dependencies (chapter 6): which names may be, a dependency's words, its text, and back. Nothing of the program is named here. Plain facts on the bytes of a number (seven bits each, the lowest first): nothing of the program is named here. Conditions: none. The words of a text, as lists of bytes; joined words; where words lie. No program is named here. Plain facts on rich dependencies (chapter 8): which are whole, their words, what is read of words. Nothing of the program is named here. Conditions: as each theorem states.
-/
import Derived.WalkKit
import Derived.Lib.SplitLaws
import Derived.Lib.Join
namespace Go.Proofs.YtpdoeapjdifmbaaGreatDoor
namespace Ver

/-- Of which Kind a byte is; 0: none. -/
def kindB (b : UInt8) : Nat :=
  if b.toNat = 126 then 1 else if b.toNat = 94 then 3 else if (97 ≤ b.toNat ∧ b.toNat ≤ 122) ∨ (65 ≤ b.toNat ∧ b.toNat ≤ 90) then 4 else if 48 ≤ b.toNat ∧ b.toNat ≤ 57 then 5 else 0

/-- Does a text begin by a byte of that Kind? -/
def headK (k : Nat) : List UInt8 → Bool
  | [] => false
  | b :: _ => kindB b == k

/-- The parts, numbers with their zeros. -/
def raw : List UInt8 → List (Nat × List UInt8)
  | [] => []
  | b :: l =>
    if kindB b = 0 then raw l
    else if kindB b < 4 then (kindB b, []) :: raw l
    else if headK (kindB b) l = true then
      match raw l with
      | [] => [(kindB b, [b])]
      | (_, t) :: r => (kindB b, b :: t) :: r
    else (kindB b, [b]) :: raw l

theorem kindB_le (b : UInt8) : kindB b ≤ 5 := by
  unfold kindB
  split
  · omega
  · split
    · omega
    · split
      · omega
      · split <;> omega
theorem kindB_ne2 (b : UInt8) : kindB b ≠ 2 := by
  unfold kindB
  split
  · omega
  · split
    · omega
    · split
      · omega
      · split <;> omega
theorem raw_cons (b : UInt8) (l : List UInt8) : raw (b :: l) =
    if kindB b = 0 then raw l
    else if kindB b < 4 then (kindB b, []) :: raw l
    else if headK (kindB b) l = true then
      match raw l with
      | [] => [(kindB b, [b])]
      | (_, t) :: r => (kindB b, b :: t) :: r
    else (kindB b, [b]) :: raw l := rfl

/-- A run of letters, or of digits, is one part. -/
theorem raw_run (k : Nat) (hk : 4 ≤ k) : ∀ (l : List UInt8), headK k l = true →
    raw l = (k, l.takeWhile (fun b => kindB b == k)) :: raw (l.dropWhile (fun b => kindB b == k)) := by
  intro l
  induction l with
  | nil => intro h; simp [headK] at h
  | cons b l ih =>
    intro h
    have hb : kindB b = k := by simpa [headK] using h
    have h0 : ¬ kindB b = 0 := by omega
    have h4 : ¬ kindB b < 4 := by omega
    rw [raw_cons, if_neg h0, if_neg h4, hb]
    simp only [List.takeWhile_cons, List.dropWhile_cons, hb, beq_self_eq_true, if_true]
    by_cases hh : headK k l = true
    · rw [if_pos hh, ih hh]
    · rw [if_neg hh]
      have e : l.takeWhile (fun b => kindB b == k) = [] ∧ l.dropWhile (fun b => kindB b == k) = l := by
        cases l with
        | nil => exact ⟨rfl, rfl⟩
        | cons c r =>
          have hc : (kindB c == k) = false := by simpa [headK] using hh
          exact ⟨by simp [hc], by simp [hc]⟩
      rw [e.1, e.2]

/-- The byte that ends a text. -/
def lastK (k : Nat) (l : List UInt8) : Bool := headK k l.reverse

theorem raw_kinds : ∀ (l : List UInt8), ∀ p ∈ raw l, p.1 = 1 ∨ p.1 = 3 ∨ p.1 = 4 ∨ p.1 = 5 := by
  intro l
  induction l with
  | nil => intro p h; simp [raw] at h
  | cons b l ih =>
    intro p h
    have h1 := kindB_le b
    have h2 := kindB_ne2 b
    rw [raw_cons] at h
    by_cases h0 : kindB b = 0
    · rw [if_pos h0] at h; exact ih p h
    · rw [if_neg h0] at h
      have hk : kindB b = 1 ∨ kindB b = 3 ∨ kindB b = 4 ∨ kindB b = 5 := by omega
      by_cases h4 : kindB b < 4
      · rw [if_pos h4] at h
        rcases List.mem_cons.1 h with h | h
        · rw [h]; exact hk
        · exact ih p h
      · rw [if_neg h4] at h
        by_cases hh : headK (kindB b) l = true
        · rw [if_pos hh] at h
          cases hr : raw l with
          | nil => rw [hr] at h; simp at h; rw [h]; exact hk
          | cons q r =>
            obtain ⟨k, t⟩ := q
            rw [hr] at h ih
            simp only [] at h
            rcases List.mem_cons.1 h with h | h
            · rw [h]; exact hk
            · exact ih p (List.mem_cons_of_mem _ h)
        · rw [if_neg hh] at h
          rcases List.mem_cons.1 h with h | h
          · rw [h]; exact hk
          · exact ih p h

abbrev Pt := Nat × List UInt8
/-- A number's zeros ahead count for nothing. -/
def norm (p : Pt) : Pt := (p.1, if p.1 = 5 then p.2.dropWhile (fun b => b.toNat == 48) else p.2)
def parts (l : List UInt8) : List Pt := (raw l).map norm
theorem parts_kinds (l : List UInt8) : ∀ p ∈ parts l, p.1 = 1 ∨ p.1 = 3 ∨ p.1 = 4 ∨ p.1 = 5 := by
  intro p h
  obtain ⟨q, hq, rfl⟩ := List.mem_map.1 h
  exact raw_kinds l q hq
/-- Is a part less than another? -/
def below (a b : Pt) : Bool :=
  if a.1 ≠ b.1 then decide (a.1 < b.1) else if a.1 = 5 ∧ a.2.length ≠ b.2.length then decide (a.2.length < b.2.length) else Op.bytesLess a.2 b.2

theorem bl_irrefl : ∀ x : List UInt8, Op.bytesLess x x = false
  | [] => rfl
  | a :: x => by
    rw [Op.bytesLess, bl_irrefl x]
    simp
theorem u8_lt (a b : UInt8) : (a < b) ↔ a.toNat < b.toNat := UInt8.lt_iff_toNat_lt
theorem bl_cons (a b : UInt8) (x y : List UInt8) : Op.bytesLess (a :: x) (b :: y) = true ↔ a.toNat < b.toNat ∨ (a = b ∧ Op.bytesLess x y = true) := by
  rw [Op.bytesLess]
  simp [u8_lt]
theorem bl_trans : ∀ x y z : List UInt8, Op.bytesLess x y = true → Op.bytesLess y z = true → Op.bytesLess x z = true
  | _, [], _, h, _ => by cases ‹List UInt8› <;> simp [Op.bytesLess] at h
  | _, _ :: _, [], _, h => by simp [Op.bytesLess] at h
  | [], _ :: _, _ :: _, _, _ => rfl
  | a :: x, b :: y, c :: z, h1, h2 => by
    rw [bl_cons] at h1 h2 ⊢
    rcases h1 with h1 | ⟨h1, h3⟩
    · rcases h2 with h2 | ⟨h2, _⟩
      · left; omega
      · left; rw [← h2]; exact h1
    · rcases h2 with h2 | ⟨h2, h4⟩
      · left; rw [h1]; exact h2
      · right; exact ⟨h1.trans h2, bl_trans x y z h3 h4⟩
theorem bl_total : ∀ x y : List UInt8, Op.bytesLess x y = false → Op.bytesLess y x = false → x = y
  | [], [], _, _ => rfl
  | [], _ :: _, h, _ => by simp [Op.bytesLess] at h
  | _ :: _, [], _, h => by simp [Op.bytesLess] at h
  | a :: x, b :: y, h1, h2 => by
    have n1 : ¬ (a.toNat < b.toNat ∨ (a = b ∧ Op.bytesLess x y = true)) := by rw [← bl_cons, h1]; simp
    have n2 : ¬ (b.toNat < a.toNat ∨ (b = a ∧ Op.bytesLess y x = true)) := by rw [← bl_cons, h2]; simp
    have hab : a = b := UInt8.toNat_inj.1 (by omega)
    subst hab
    have m1 : Op.bytesLess x y = false := by
      cases hh : Op.bytesLess x y with
      | false => rfl
      | true => exact absurd (.inr ⟨rfl, hh⟩) n1
    have m2 : Op.bytesLess y x = false := by
      cases hh : Op.bytesLess y x with
      | false => rfl
      | true => exact absurd (.inr ⟨rfl, hh⟩) n2
    rw [bl_total x y m1 m2]

theorem below_irrefl (a : Pt) : below a a = false := by simp [below, bl_irrefl]
theorem below_cases (a b : Pt) : below a b = true ↔ a.1 < b.1 ∨ (a.1 = b.1 ∧ ((a.1 = 5 ∧ a.2.length < b.2.length) ∨ ((a.1 = 5 → a.2.length = b.2.length) ∧ Op.bytesLess a.2 b.2 = true))) := by
  unfold below
  by_cases h1 : a.1 = b.1
  · simp only [h1, ne_eq, not_true, if_false, Nat.lt_irrefl, false_or, true_and]
    by_cases h5 : b.1 = 5
    · by_cases hl : a.2.length = b.2.length
      · simp [h5, hl]
      · simp [h5, hl]
    · simp [h5]
  · simp [h1]
theorem below_trans (a b c : Pt) (h1 : below a b = true) (h2 : below b c = true) : below a c = true := by
  rw [below_cases] at h1 h2 ⊢
  rcases h1 with h1 | ⟨e1, h1⟩
  · rcases h2 with h2 | ⟨e2, _⟩
    · left; omega
    · left; omega
  · rcases h2 with h2 | ⟨e2, h2⟩
    · left; omega
    · right
      refine ⟨by omega, ?_⟩
      rcases h1 with ⟨h5, hl⟩ | ⟨hl, hb⟩
      · rcases h2 with ⟨_, hl2⟩ | ⟨hl2, _⟩
        · left; exact ⟨h5, by omega⟩
        · left; have := hl2 (by omega); exact ⟨h5, by omega⟩
      · rcases h2 with ⟨h5, hl2⟩ | ⟨hl2, hb2⟩
        · left; have := hl (by omega); exact ⟨by omega, by omega⟩
        · right
          refine ⟨fun h5 => ?_, bl_trans _ _ _ hb hb2⟩
          have := hl h5
          have := hl2 (by omega)
          omega
theorem below_total (a b : Pt) (h1 : below a b = false) (h2 : below b a = false) : a = b := by
  have n1 : ¬ below a b = true := by rw [h1]; simp
  have n2 : ¬ below b a = true := by rw [h2]; simp
  rw [below_cases] at n1 n2
  have hk : a.1 = b.1 := by
    by_cases h : a.1 < b.1
    · exact absurd (.inl h) n1
    · by_cases h' : b.1 < a.1
      · exact absurd (.inl h') n2
      · omega
  have hl : a.1 = 5 → a.2.length = b.2.length := by
    intro h5
    by_cases h : a.2.length < b.2.length
    · exact absurd (.inr ⟨hk, .inl ⟨h5, h⟩⟩) n1
    · by_cases h' : b.2.length < a.2.length
      · exact absurd (.inr ⟨hk.symm, .inl ⟨by omega, h'⟩⟩) n2
      · omega
  have m1 : Op.bytesLess a.2 b.2 = false := by
    cases hh : Op.bytesLess a.2 b.2 with
    | false => rfl
    | true => exact absurd (.inr ⟨hk, .inr ⟨hl, hh⟩⟩) n1
  have m2 : Op.bytesLess b.2 a.2 = false := by
    cases hh : Op.bytesLess b.2 a.2 with
    | false => rfl
    | true => exact absurd (.inr ⟨hk.symm, .inr ⟨fun h => (hl (by omega)).symm, hh⟩⟩) n2
  exact Prod.ext hk (bl_total _ _ m1 m2)
theorem below_asymm (a b : Pt) (h : below a b = true) : below b a = false := by
  cases hh : below b a with
  | false => rfl
  | true => exact absurd (below_trans a b a h hh) (by rw [below_irrefl]; simp)

/-- How two rows of parts compare. -/
def cmpP : List Pt → List Pt → Int
  | [], [] => 0
  | [], y :: _ => if y.1 < 2 then 1 else -1
  | x :: _, [] => if x.1 < 2 then -1 else 1
  | x :: xs, y :: ys => if below x y = true then -1 else if below y x = true then 1 else cmpP xs ys

theorem cmp_nc (y : Pt) (ys : List Pt) : cmpP [] (y :: ys) = if y.1 < 2 then 1 else -1 := by rw [cmpP]
theorem cmp_cn (x : Pt) (xs : List Pt) : cmpP (x :: xs) [] = if x.1 < 2 then -1 else 1 := by rw [cmpP]
theorem cmp_cc (x y : Pt) (xs ys : List Pt) : cmpP (x :: xs) (y :: ys) = if below x y = true then -1 else if below y x = true then 1 else cmpP xs ys := by rw [cmpP]

theorem cmp_range : ∀ x y : List Pt, cmpP x y = -1 ∨ cmpP x y = 0 ∨ cmpP x y = 1
  | [], [] => .inr (.inl rfl)
  | [], y :: _ => by rw [cmpP]; split <;> simp
  | x :: _, [] => by rw [cmpP]; split <;> simp
  | x :: xs, y :: ys => by
    rw [cmpP]
    split
    · simp
    · split
      · simp
      · exact cmp_range xs ys
theorem cmp_turn : ∀ x y : List Pt, cmpP y x = - cmpP x y
  | [], [] => rfl
  | [], y :: _ => by simp only [cmp_nc, cmp_cn]; split <;> rfl
  | x :: _, [] => by simp only [cmp_nc, cmp_cn]; split <;> rfl
  | x :: xs, y :: ys => by
    rw [cmp_cc y x, cmp_cc x y]
    by_cases h1 : below x y = true
    · have h2 := below_asymm _ _ h1
      simp [h1, h2]
    · rw [if_neg h1]
      by_cases h2 : below y x = true
      · simp [h1, h2]
      · rw [if_neg h2, if_neg h2, if_neg h1]; exact cmp_turn xs ys
theorem cmp_zero : ∀ x y : List Pt, cmpP x y = 0 → x = y
  | [], [], _ => rfl
  | [], y :: _, h => by simp only [cmp_nc] at h; split at h <;> simp at h
  | x :: _, [], h => by simp only [cmp_cn] at h; split at h <;> simp at h
  | x :: xs, y :: ys, h => by
    rw [cmp_cc] at h
    by_cases h1 : below x y = true
    · rw [if_pos h1] at h; simp at h
    · rw [if_neg h1] at h
      by_cases h2 : below y x = true
      · rw [if_pos h2] at h; simp at h
      · rw [if_neg h2] at h
        rw [below_total x y (by simpa using h1) (by simpa using h2), cmp_zero xs ys h]
/-- No part has the end's Kind. -/
def Whole (x : List Pt) : Prop := ∀ p ∈ x, p.1 = 1 ∨ p.1 = 3 ∨ p.1 = 4 ∨ p.1 = 5
theorem cmp_less : ∀ x y z : List Pt, Whole x → Whole y → Whole z → cmpP x y = -1 → cmpP y z = -1 → cmpP x z = -1
  | [], [], _, _, _, _, h, _ => by simp [cmpP] at h
  | [], y :: ys, [], _, _, _, h1, h2 => by
    simp only [cmp_nc, cmp_cn] at h1 h2
    split at h1
    · simp at h1
    · split at h2
      · omega
      · simp at h2
  | [], y :: ys, z :: zs, _, _, hz, h1, h2 => by
    have hz' := hz z (by simp)
    simp only [cmp_nc, cmp_cc] at h1 h2 ⊢
    split at h1
    · simp at h1
    · rename_i hy
      by_cases hb : below y z = true
      · rw [below_cases] at hb
        rw [if_neg (by omega)]
      · rw [if_neg hb] at h2
        by_cases hb2 : below z y = true
        · rw [if_pos hb2] at h2; simp at h2
        · have e := below_total y z (by simpa using hb) (by simpa using hb2)
          subst e
          rw [if_neg hy]
  | x :: xs, [], [], _, _, _, _, h => by simp [cmpP] at h
  | x :: xs, [], z :: zs, hx, _, hz, h1, h2 => by
    have hx' := hx x (by simp)
    have hz' := hz z (by simp)
    simp only [cmp_nc, cmp_cn, cmp_cc] at h1 h2 ⊢
    split at h1
    · split at h2
      · simp at h2
      · rw [if_pos]
        rw [below_cases]; left; omega
    · simp at h1
  | x :: xs, y :: ys, [], hx, hy, _, h1, h2 => by
    have hx' := hx x (by simp)
    have hy' := hy y (by simp)
    simp only [cmp_cn, cmp_cc] at h1 h2 ⊢
    split at h2
    · by_cases hb : below x y = true
      · rw [below_cases] at hb
        rw [if_pos (by omega)]
      · rw [if_neg hb] at h1
        by_cases hb2 : below y x = true
        · rw [if_pos hb2] at h1; simp at h1
        · have e := below_total x y (by simpa using hb) (by simpa using hb2)
          subst e
          rw [if_pos (by omega)]
    · simp at h2
  | x :: xs, y :: ys, z :: zs, hx, hy, hz, h1, h2 => by
    simp only [cmp_cc] at h1 h2 ⊢
    by_cases b1 : below x y = true
    · by_cases b2 : below y z = true
      · rw [if_pos (below_trans x y z b1 b2)]
      · rw [if_neg b2] at h2
        by_cases b3 : below z y = true
        · rw [if_pos b3] at h2; simp at h2
        · have e := below_total y z (by simpa using b2) (by simpa using b3)
          subst e
          rw [if_pos b1]
    · rw [if_neg b1] at h1
      by_cases b4 : below y x = true
      · rw [if_pos b4] at h1; simp at h1
      · have e := below_total x y (by simpa using b1) (by simpa using b4)
        subst e
        rw [if_neg b4] at h1
        by_cases b2 : below x z = true
        · rw [if_pos b2]
        · rw [if_neg b2] at h2 ⊢
          by_cases b3 : below z x = true
          · rw [if_pos b3] at h2; simp at h2
          · rw [if_neg b3] at h2 ⊢
            exact cmp_less xs ys zs (fun p hp => hx p (by simp [hp])) (fun p hp => hy p (by simp [hp])) (fun p hp => hz p (by simp [hp])) h1 h2
/-- What stands ahead of both changes nothing. -/
theorem cmp_ahead (x y : List Pt) : ∀ a : List Pt, cmpP (a ++ x) (a ++ y) = cmpP x y
  | [] => rfl
  | p :: a => by
    rw [List.cons_append, List.cons_append, cmp_cc, below_irrefl]
    simpa using cmp_ahead x y a
/-- How two versions compare. -/
def cmpV (a b : List UInt8) : Int := cmpP (parts a) (parts b)
theorem parts_nothing (b : UInt8) (hb : kindB b = 0) (l : List UInt8) : parts (b :: l) = parts l := by unfold parts; rw [raw_cons, if_pos hb]
theorem parts_one (b : UInt8) (hb : kindB b = 1 ∨ kindB b = 3) (l : List UInt8) : parts (b :: l) = (kindB b, []) :: parts l := by
  unfold parts
  rw [raw_cons, if_neg (by omega), if_pos (by omega)]
  rcases hb with hb | hb <;> simp [norm, hb]
theorem tw_at (p : UInt8 → Bool) : ∀ (m : List UInt8) (j : Nat), j < (m.takeWhile p).length → ∃ b, m[j]? = some b ∧ p b = true
  | [], j, h => by simp at h
  | a :: m, j, h => by
    cases hp : p a with
    | false => simp [hp] at h
    | true =>
      cases j with
      | zero => exact ⟨a, rfl, hp⟩
      | succ j =>
        simp [hp] at h
        obtain ⟨b, h1, h2⟩ := tw_at p m j h
        exact ⟨b, by simpa using h1, h2⟩
theorem tw_end (p : UInt8 → Bool) : ∀ (m : List UInt8) (b : UInt8), m[(m.takeWhile p).length]? = some b → p b = false
  | [], b, h => by simp at h
  | a :: m, b, h => by
    cases hp : p a with
    | false =>
      simp [hp] at h
      rw [← h]; exact hp
    | true =>
      simp [hp] at h
      exact tw_end p m b h
theorem tw_len (p : UInt8 → Bool) (m : List UInt8) : (m.takeWhile p).length ≤ m.length := (List.takeWhile_sublist p).length_le
theorem tw_take (p : UInt8 → Bool) : ∀ m : List UInt8, m.takeWhile p = m.take (m.takeWhile p).length
  | [] => rfl
  | a :: m => by
    cases hp : p a with
    | false => simp [hp]
    | true =>
      simp only [List.takeWhile_cons, hp, if_true, List.length_cons, List.take_succ_cons]
      rw [← tw_take p m]
theorem dw_drop (p : UInt8 → Bool) : ∀ m : List UInt8, m.dropWhile p = m.drop (m.takeWhile p).length
  | [] => rfl
  | a :: m => by
    cases hp : p a with
    | false => simp [hp]
    | true =>
      simp only [List.takeWhile_cons, List.dropWhile_cons, hp, if_true, List.length_cons, List.drop_succ_cons]
      exact dw_drop p m
/-- The run of that Kind at i. -/
def run (k : Nat) (l : List UInt8) (i : Nat) : List UInt8 := (l.drop i).takeWhile (fun b => kindB b == k)
def zeros (m : List UInt8) : Nat := (m.takeWhile (fun b => b.toNat == 48)).length
theorem run_len (k : Nat) (l : List UInt8) (i : Nat) (h : i ≤ l.length) : i + (run k l i).length ≤ l.length := by
  have := tw_len (fun b => kindB b == k) (l.drop i)
  rw [List.length_drop] at this
  unfold run
  omega
theorem run_at {k : Nat} {l : List UInt8} {i j : Nat} (h : j < (run k l i).length) {b : UInt8} (hb : l[i + j]? = some b) : kindB b = k := by
  obtain ⟨c, h1, h2⟩ := tw_at _ _ j h
  rw [List.getElem?_drop, hb] at h1
  injection h1 with h1
  rw [h1]; simpa using h2
theorem run_end {k : Nat} {l : List UInt8} {i : Nat} {b : UInt8} (hb : l[i + (run k l i).length]? = some b) : kindB b ≠ k := by
  have := tw_end (fun b => kindB b == k) (l.drop i) b (by rw [List.getElem?_drop]; exact hb)
  simpa using this
theorem parts_run (k : Nat) (hk : 4 ≤ k) (l : List UInt8) (i : Nat) {b : UInt8} (hb : l[i]? = some b) (h : kindB b = k) :
    parts (l.drop i) = norm (k, run k l i) :: parts (l.drop (i + (run k l i).length)) := by
  have hd : l.drop i = b :: l.drop (i + 1) := by
    have hi : i < l.length := (List.getElem?_eq_some_iff.1 hb).1
    rw [List.drop_eq_getElem_cons hi]
    rw [List.getElem?_eq_getElem hi] at hb
    rw [Option.some.inj hb]
  have hh : headK k (l.drop i) = true := by rw [hd]; simp [headK, h]
  unfold parts
  rw [raw_run k hk _ hh, List.map_cons, dw_drop, List.drop_drop]
  rfl
theorem parts_whole (l : List UInt8) : Whole (parts l) := parts_kinds l
end Ver
end Go.Proofs.YtpdoeapjdifmbaaGreatDoor

namespace Go.Proofs.YtpdoeapjdifmbaaGreatDoor
namespace Evr
open Ver

def okB (b : UInt8) : Bool := decide (97 ≤ b.toNat ∧ b.toNat ≤ 122) || decide (65 ≤ b.toNat ∧ b.toNat ≤ 90) || decide (48 ≤ b.toNat ∧ b.toNat ≤ 57) || decide (b.toNat = 46) || decide (b.toNat = 95) || decide (b.toNat = 43) || decide (b.toNat = 126) || decide (b.toNat = 94)
def wordE (s : List UInt8) : Bool := s.all okB && decide (1 ≤ s.length) && decide (s.length ≤ 64)
structure E where
  epoch : Int
  ver : List UInt8
  rel : List UInt8
def mayE (e : E) (dep : Bool) : Bool := decide (0 ≤ e.epoch) && decide (e.epoch ≤ 2147483647) && wordE e.ver && (if e.rel = [] then dep else wordE e.rel)
def dig (n : Nat) : UInt8 := UInt8.ofNat (48 + n % 10)
def digits (n : Nat) : List UInt8 := if _h : n < 10 then [dig n] else digits (n / 10) ++ [dig n]
  termination_by n
  decreasing_by omega
def val (a : List UInt8) : Nat := a.foldl (fun n b => n * 10 + (b.toNat - 48)) 0
def showE (e : E) : List UInt8 := (if 0 < e.epoch then digits e.epoch.toNat ++ [58] else []) ++ e.ver ++ (if e.rel = [] then [] else 45 :: e.rel)
/-- A text ahead of the first such byte, and behind it. -/
def cut (c : UInt8) : List UInt8 → List UInt8 × List UInt8 × Bool
  | [] => ([], [], false)
  | b :: l => if b = c then ([], l, true) else let (x, y, z) := cut c l; (b :: x, y, z)
def isDig (b : UInt8) : Bool := decide (48 ≤ b.toNat) && decide (b.toNat ≤ 57)
def numOk (a : List UInt8) : Bool := decide (1 ≤ a.length) && decide (a.length ≤ 10) && !(a.head? == some 48) && a.all isDig
def parseR (n : Nat) (rest : List UInt8) : Option E :=
  let c := cut 45 rest
  if (c.2.2 = true ∧ c.2.1 = []) ∨ mayE ⟨n, c.1, c.2.1⟩ true = false then none else some ⟨n, c.1, c.2.1⟩
def parseE (s : List UInt8) : Option E :=
  if 200 < s.length then none else
  let c := cut 58 s
  if c.2.2 = true then (if numOk c.1 = true then parseR (val c.1) c.2.1 else none) else parseR 0 c.1

theorem word_ok {s : List UInt8} (h : wordE s = true) : (∀ b ∈ s, okB b = true) ∧ 1 ≤ s.length ∧ s.length ≤ 64 := by
  unfold wordE at h
  simp only [Bool.and_eq_true, decide_eq_true_eq, List.all_eq_true] at h
  exact ⟨h.1.1, h.1.2, h.2⟩
theorem may_parts {e : E} (h : mayE e true = true) : 0 ≤ e.epoch ∧ e.epoch ≤ 2147483647 ∧ wordE e.ver = true ∧ (e.rel = [] ∨ wordE e.rel = true) := by
  unfold mayE at h
  simp only [Bool.and_eq_true, decide_eq_true_eq] at h
  refine ⟨h.1.1.1, h.1.1.2, h.1.2, ?_⟩
  by_cases hr : e.rel = []
  · exact .inl hr
  · have := h.2
    rw [if_neg hr] at this
    exact .inr this
/-- How two compare. -/
def cmpE (a b : E) : Int := if a.epoch < b.epoch then -1 else if b.epoch < a.epoch then 1 else
  if cmpV a.ver b.ver ≠ 0 ∨ a.rel = [] ∨ b.rel = [] then cmpV a.ver b.ver else cmpV a.rel b.rel
end Evr
end Go.Proofs.YtpdoeapjdifmbaaGreatDoor

namespace Go.Proofs.YtpdoeapjdifmbaaGreatDoor
namespace Evr
open Ver

theorem v_facts (a b c : List UInt8) : (-1 ≤ cmpV a b ∧ cmpV a b ≤ 1) ∧ (cmpV a b = 0 → cmpV a c = cmpV b c) ∧ (cmpV b c = 0 → cmpV a c = cmpV a b) ∧
    (cmpV a b < 0 → cmpV b c < 0 → cmpV a c < 0) ∧ (0 < cmpV a b → 0 < cmpV b c → 0 < cmpV a c) := by
  unfold cmpV
  have ra := cmp_range (parts a) (parts b)
  have rb := cmp_range (parts b) (parts c)
  have t1 := cmp_turn (parts a) (parts b)
  have t2 := cmp_turn (parts b) (parts c)
  have t3 := cmp_turn (parts a) (parts c)
  refine ⟨by omega, fun h => by rw [cmp_zero _ _ h], fun h => by rw [cmp_zero _ _ h], fun h1 h2 => ?_, fun h1 h2 => ?_⟩
  · have := cmp_less _ _ _ (parts_whole a) (parts_whole b) (parts_whole c) (by omega) (by omega)
    omega
  · have := cmp_less _ _ _ (parts_whole c) (parts_whole b) (parts_whole a) (by omega) (by omega)
    omega
theorem e_range (a b : E) : -1 ≤ cmpE a b ∧ cmpE a b ≤ 1 := by
  unfold cmpE
  have h1 := (v_facts a.ver b.ver b.ver).1
  have h2 := (v_facts a.rel b.rel b.rel).1
  split
  · omega
  · split
    · omega
    · split <;> omega
end Evr
end Go.Proofs.YtpdoeapjdifmbaaGreatDoor

namespace Go.Proofs.YtpdoeapjdifmbaaGreatDoor
namespace Span
open Go.RowKit

/-- Whether an Op is valid; its text. -/
def mayO (o : Nat) : Bool := o == 0 || o == 1 || o == 2 || o == 3 || o == 4 || o == 6
def textO (o : Nat) : ByteArray := match o with | 1 => ⟨#[60]⟩ | 2 => ⟨#[61]⟩ | 3 => ⟨#[60, 61]⟩ | 4 => ⟨#[62]⟩ | 6 => ⟨#[62, 61]⟩ | _ => ⟨#[]⟩
def parseL (l : List UInt8) : Nat × Bool :=
  if l = [] then (0, true) else if l = [60] then (1, true) else if l = [61] then (2, true) else if l = [60, 61] then (3, true) else if l = [62] then (4, true) else if l = [62, 61] then (6, true) else (0, false)
/-- Two ranges, of Ops a and b, whose EVRs compare as c says. -/
def meetO (a b : Nat) (c : Int) : Bool := a % 8 == 0 || b % 8 == 0 ||
  (if c < 0 then a / 4 % 2 == 1 || b % 2 == 1 else if 0 < c then a % 2 == 1 || b / 4 % 2 == 1 else (a % 2 == 1 && b % 2 == 1) || (a / 2 % 2 == 1 && b / 2 % 2 == 1) || (a / 4 % 2 == 1 && b / 4 % 2 == 1))

theorem and_nat (a b : Nat) (ha : a < 256) (hb : b < 256) : bits .and .u8 (a : Int) (b : Int) = ((a &&& b : Nat) : Int) := by
  have h : ∀ n : Nat, n < 256 → (BitVec.ofInt 8 (n : Int)).toNat = n := fun n hn => by
    rw [BitVec.ofInt_natCast, BitVec.toNat_ofNat]
    exact Nat.mod_eq_of_lt hn
  have hx : a &&& b ≤ a := Nat.and_le_left
  change IntKind.u8.wrap ((BitVec.ofInt 8 (a : Int) &&& BitVec.ofInt 8 (b : Int)).toNat : Int) = _
  rw [BitVec.toNat_and, h a ha, h b hb]
  rw [IntKind.wrap_u8]
  omega
theorem bit_one (o : Nat) (h : o < 256) : bits .and .u8 (o : Int) 1 = ((o % 2 : Nat) : Int) := by
  have := and_nat o 1 h (by omega)
  rw [show o &&& 1 = o % 2 from (by decide +kernel : ∀ o : Fin 256, o.val &&& 1 = o.val % 2) ⟨o, h⟩] at this
  exact this
theorem bit_four (o : Nat) (h : o < 256) : bits .and .u8 (o : Int) 4 = ((o / 4 % 2 * 4 : Nat) : Int) := by
  have := and_nat o 4 h (by omega)
  rw [show o &&& 4 = o / 4 % 2 * 4 from (by decide +kernel : ∀ o : Fin 256, o.val &&& 4 = o.val / 4 % 2 * 4) ⟨o, h⟩] at this
  exact this
theorem bit_seven (o : Nat) (h : o < 256) : bits .and .u8 (o : Int) 7 = ((o % 8 : Nat) : Int) := by
  have := and_nat o 7 h (by omega)
  rw [show o &&& 7 = o % 8 from (by decide +kernel : ∀ o : Fin 256, o.val &&& 7 = o.val % 8) ⟨o, h⟩] at this
  exact this
theorem both_seven (a b : Nat) (ha : a < 256) (hb : b < 256) : bits .and .u8 (bits .and .u8 (a : Int) (b : Int)) 7 = (((a % 8) &&& (b % 8) : Nat) : Int) := by
  have hx : a &&& b ≤ a := Nat.and_le_left
  rw [and_nat a b ha hb, bit_seven _ (by omega), show (8 : Nat) = 2 ^ 3 from rfl, Nat.and_mod_two_pow]
theorem small (o : Nat) : o % 8 < 8 := Nat.mod_lt _ (by omega)
theorem three {c : Int} (h : -1 ≤ c ∧ c ≤ 1) : c = -1 ∨ c = 0 ∨ c = 1 := by omega
theorem both_bits (a b : Nat) : ((a % 8) &&& (b % 8) ≠ 0) ↔ ((a % 2 = 1 ∧ b % 2 = 1) ∨ (a / 2 % 2 = 1 ∧ b / 2 % 2 = 1) ∨ (a / 4 % 2 = 1 ∧ b / 4 % 2 = 1)) := by
  have h := (by decide +kernel : ∀ x y : Fin 8, (x.val &&& y.val ≠ 0) ↔ ((x.val % 2 = 1 ∧ y.val % 2 = 1) ∨ (x.val / 2 % 2 = 1 ∧ y.val / 2 % 2 = 1) ∨ (x.val / 4 % 2 = 1 ∧ y.val / 4 % 2 = 1))) ⟨_, small a⟩ ⟨_, small b⟩
  simpa only [show ∀ o, o % 8 % 2 = o % 2 from fun o => by omega, show ∀ o, o % 8 / 2 % 2 = o / 2 % 2 from fun o => by omega, show ∀ o, o % 8 / 4 % 2 = o / 4 % 2 from fun o => by omega] using h
end Span
end Go.Proofs.YtpdoeapjdifmbaaGreatDoor

namespace Go.Proofs.YtpdoeapjdifmbaaGreatDoor
namespace Dep
open Ver Evr Span

def signD (b : UInt8) : Bool := okB b || decide (b.toNat = 45) || decide (b.toNat = 47) || decide (b.toNat = 58) || decide (b.toNat = 64)
def noNames : List (List UInt8) := [[97, 110, 100], [111, 114], [105, 102], [101, 108, 115, 101], [117, 110, 108, 101, 115, 115], [119, 105, 116, 104], [119, 105, 116, 104, 111, 117, 116]]
def nameD (s : List UInt8) : Bool := decide (1 ≤ s.length) && decide (s.length ≤ 64) && !noNames.contains s && s.all signD
def fileD (s : List UInt8) : Bool := nameD s && s.head? == some 47
structure D where
  name : List UInt8
  op : Nat
  evr : E
def zeroD : E := ⟨0, [], []⟩
def noE (e : E) : Bool := decide (e.epoch = 0) && decide (e.ver = []) && decide (e.rel = [])
def mayD (d : D) : Bool := nameD d.name && mayO d.op && (if d.op = 0 then noE d.evr else !fileD d.name && mayE d.evr true)
def textL (o : Nat) : List UInt8 := (textO o).data.toList
def wordsD (d : D) : List (List UInt8) := if d.op = 0 then [d.name] else [d.name, textL d.op, showE d.evr]
def threeD (n o v : List UInt8) : Option D := match parseE v with
  | some e => if (parseL o).2 = true ∧ mayD ⟨n, (parseL o).1, e⟩ = true then some ⟨n, (parseL o).1, e⟩ else none
  | none => none
def ofD : List (List UInt8) → Option D
  | [n] => if nameD n = true then some ⟨n, 0, zeroD⟩ else none
  | [n, o, v] => threeD n o v
  | _ => none
theorem noE_iff {e : E} : noE e = true ↔ e = zeroD := by
  unfold noE zeroD
  cases e
  simp [and_assoc]
theorem may_any {n : List UInt8} {e : E} : mayD ⟨n, 0, e⟩ = (nameD n && noE e) := by
  unfold mayD
  simp [mayO]
theorem may_op {n : List UInt8} {o : Nat} {e : E} (h : o ≠ 0) : mayD ⟨n, o, e⟩ = (nameD n && mayO o && (!fileD n && mayE e true)) := by
  unfold mayD
  simp [h]
/-- A byte that may stand in a dependency's text. -/
def okT (b : UInt8) : Bool := signD b || decide (b.toNat = 60) || decide (b.toNat = 61) || decide (b.toNat = 62)
theorem sign_okT {b : UInt8} (h : signD b = true) : okT b = true := by unfold okT; simp [h]
theorem name_parts {n : List UInt8} (h : nameD n = true) : 1 ≤ n.length ∧ n.length ≤ 64 ∧ (∀ b ∈ n, signD b = true) := by
  unfold nameD at h
  simp only [Bool.and_eq_true, decide_eq_true_eq] at h
  exact ⟨h.1.1.1, h.1.1.2, List.all_eq_true.1 h.2⟩
end Dep
end Go.Proofs.YtpdoeapjdifmbaaGreatDoor

namespace Go.Proofs.YtpdoeapjdifmbaaGreatDoor

end Go.Proofs.YtpdoeapjdifmbaaGreatDoor

namespace Go.Proofs.YtpdoeapjdifmbaaGreatDoor
namespace Lex

/-- 0 a space, 1 a bracket, 2 another byte that may be, 3 one that may not. -/
def kind (b : UInt8) : Nat := if b.toNat = 32 then 0 else if b.toNat = 40 ∨ b.toNat = 41 then 1 else if 33 ≤ b.toNat ∧ b.toNat ≤ 126 then 2 else 3
/-- A word and its place. -/
abbrev Wd := List UInt8 × Nat
/-- The words of what is left, with a word that stands open. -/
def cont : Option Wd → Nat → List UInt8 → List Wd
  | o, _, [] => o.toList
  | o, p, b :: l =>
    if kind b = 0 then o.toList ++ cont none (p + 1) l
    else if kind b = 1 then o.toList ++ ([b], p) :: cont none (p + 1) l
    else match o with
      | some (t, q) => cont (some (t ++ [b], q)) (p + 1) l
      | none => cont (some ([b], p)) (p + 1) l
def words (s : List UInt8) : List Wd := cont none 0 s
/-- The place of the first byte that may not be. -/
def bad : List UInt8 → Option Nat
  | [] => none
  | b :: l => if kind b = 3 then some 0 else (bad l).map (· + 1)
/-- What Words answers: the words, the place, the number of the error. -/
def answer (s : List UInt8) : List Wd × Nat × Int :=
  if 4096 < s.length then ([], 0, 40) else match bad s with
    | some i => ([], i, 4)
    | none => (words s, 0, 0)
def sep : Option (List UInt8) → List UInt8 → List UInt8
  | none, _ => []
  | some y, x => if x = [41] ∨ y = [40] then [] else [32]
def placed : Option (List UInt8) → Nat → List (List UInt8) → List Wd
  | _, _, [] => []
  | y, p, x :: l => (x, p + (sep y x).length) :: placed (some x) (p + (sep y x).length + x.length) l
/-- May this be a word? -/
def plain (x : List UInt8) : Bool := decide (x = [40]) || decide (x = [41]) || (decide (x ≠ []) && x.all fun b => decide (kind b = 2))
def bracket (x : List UInt8) : Prop := x = [40] ∨ x = [41]

def k2 (b : UInt8) : Bool := decide (kind b = 2)
end Lex
end Go.Proofs.YtpdoeapjdifmbaaGreatDoor

namespace Go.Proofs.YtpdoeapjdifmbaaGreatDoor
namespace Rich
open Ver Evr Span Dep Lex

inductive R where
  | mk : Nat → D → List R → R
def R.kind : R → Nat | .mk k _ _ => k
def R.dep : R → D | .mk _ d _ => d
def R.args : R → List R | .mk _ _ l => l
def zD : D := ⟨[], 0, zeroD⟩
def noD (d : D) : Bool := decide (d.name = []) && decide (d.op = 0) && noE d.evr
/-- How many parts each Kind has. -/
def okN (k n : Nat) : Bool := if k = 2 ∨ k = 3 ∨ k = 6 then decide (2 ≤ n) else if k = 4 ∨ k = 5 then decide (n = 2 ∨ n = 3) else if k = 7 then decide (n = 2) else false
mutual
def part : R → Bool
  | .mk k d l => if k = 1 then mayD d && l.isEmpty else okN k l.length && allP l && noD d
def allP : List R → Bool
  | [] => true
  | x :: l => part x && allP l
end
mutual
def count : R → Nat
  | .mk _ _ l => 1 + counts l
def counts : List R → Nat
  | [] => 0
  | x :: l => count x + counts l
end
mutual
def deep : R → Nat
  | .mk k _ l => if k = 1 then 0 else deeps l + 1
def deeps : List R → Nat
  | [] => 0
  | x :: l => max (deep x) (deeps l)
end
def whole (x : R) : Bool := part x && decide (count x ≤ 24) && decide (deep x ≤ 8)
def wordK (k : Nat) : List UInt8 := match k with
  | 2 => [97, 110, 100]
  | 3 => [111, 114]
  | 4 => [105, 102]
  | 5 => [117, 110, 108, 101, 115, 115]
  | 6 => [119, 105, 116, 104]
  | 7 => [119, 105, 116, 104, 111, 117, 116]
  | _ => []
def wElse : List UInt8 := [101, 108, 115, 101]
/-- The word ahead of part i. -/
def sepW (k i : Nat) : List UInt8 := if i = 2 ∧ (k = 4 ∨ k = 5) then wElse else wordK k
def sepL (k i : Nat) : List (List UInt8) := if i = 0 then [] else [sepW k i]
mutual
def wordsR : R → List (List UInt8)
  | .mk k d l => if k = 1 then wordsD d else [40] :: (wordsL k 0 l ++ [[41]])
def wordsL (k : Nat) : Nat → List R → List (List UInt8)
  | _, [] => []
  | i, x :: l => sepL k i ++ (wordsR x ++ wordsL k (i + 1) l)
end
/-! What is read. -/
def kindW (w : List UInt8) : Nat := if w = wordK 2 then 2 else if w = wordK 3 then 3 else if w = wordK 4 then 4 else if w = wordK 5 then 5 else if w = wordK 6 then 6 else if w = wordK 7 then 7 else 0
def placeW (e : Nat) : List Wd → Nat
  | [] => e
  | (_, a) :: _ => a
def textW : List Wd → List UInt8
  | [] => []
  | (t, _) :: _ => t
abbrev Res := Except (Nat × Int) (R × Nat × List Wd)
def finF (ws : List (List UInt8)) (p n : Nat) (rest : List Wd) : Res := match ofD ws with
  | some d => .ok (.mk 1 d [], n, rest)
  | none => .error (p, 4)
/-- Is this word the text of an Op that is not Any? -/
def isOp (w : List UInt8) : Bool := (parseL w).2 && decide ((parseL w).1 ≠ 0)
def atomF (w : List UInt8) (p n : Nat) (rest : List Wd) : Res :=
  if isOp (textW rest) = true then match rest.tail with
    | [] => finF [w, textW rest] p n []
    | (v, _) :: r2 => finF [w, textW rest, v] p n r2
  else finF [w] p n rest
def moreW (k len : Nat) (w : List UInt8) : Bool := (decide (w = wordK k) && decide (k = 2 ∨ k = 3 ∨ k = 6)) || (decide (w = wElse) && decide (len = 2) && decide (k = 4 ∨ k = 5))
mutual
def readF (e : Nat) : Nat → Nat → Nat → List Wd → Res
  | 0, _, _, _ => .error (e, 4)
  | _ + 1, _, _, [] => .error (e, 4)
  | f + 1, o, n, (w, p) :: rest =>
    if w = [] ∨ w = [41] then .error (p, 4)
    else if w = [40] ∧ o = 8 then .error (p, 21)
    else if 24 < n + 1 then .error (p, 40)
    else if w ≠ [40] then atomF w p (n + 1) rest
    else match readF e f (o + 1) (n + 1) rest with
      | .error x => .error x
      | .ok (a, n2, ws2) => if kindW (textW ws2) = 0 then .error (placeW e ws2, 4) else moreF e f (o + 1) (kindW (textW ws2)) [a] n2 ws2
def moreF (e : Nat) : Nat → Nat → Nat → List R → Nat → List Wd → Res
  | 0, _, _, _, _, _ => .error (e, 4)
  | f + 1, o, k, l, n, ws => match readF e f o n ws.tail with
    | .error x => .error x
    | .ok (b, n2, ws2) =>
      if textW ws2 = [41] then .ok (.mk k zD (l ++ [b]), n2, ws2.tail)
      else if moreW k (l.length + 1) (textW ws2) = true then moreF e f o k (l ++ [b]) n2 ws2
      else .error (placeW e ws2, 4)
end
/-! Words. -/
theorem okT_two {b : UInt8} (h : okT b = true) : kind b = 2 := by
  have key : ∀ n : Nat, n < 256 → okT (UInt8.ofNat n) = true → kind (UInt8.ofNat n) = 2 := by decide +kernel
  have := key b.toNat (UInt8.toNat_lt b) (by rw [UInt8.ofNat_toNat]; exact h)
  rwa [UInt8.ofNat_toNat] at this
theorem plain_of {x : List UInt8} (h0 : x ≠ []) (h : ∀ b ∈ x, okT b = true) : plain x = true := by
  unfold plain
  simp only [Bool.or_eq_true, Bool.and_eq_true, decide_eq_true_eq, List.all_eq_true]
  exact .inr ⟨h0, fun b hb => okT_two (h b hb)⟩
theorem name_word {n : List UInt8} (h : nameD n = true) : n ≠ [] ∧ n ≠ [40] ∧ n ≠ [41] ∧ plain n = true := by
  obtain ⟨h1, _, h3⟩ := name_parts h
  have h0 : n ≠ [] := fun e => by rw [e] at h1; simp at h1
  refine ⟨h0, ?_, ?_, plain_of h0 (fun b hb => sign_okT (h3 b hb))⟩
  · rintro rfl; have := h3 40 (by simp); revert this; decide
  · rintro rfl; have := h3 41 (by simp); revert this; decide
theorem wordsD_any {d : D} (h : d.op = 0) : wordsD d = [d.name] := by unfold wordsD; rw [if_pos h]
theorem wordsD_op {d : D} (h : d.op ≠ 0) : wordsD d = [d.name, textL d.op, showE d.evr] := by unfold wordsD; rw [if_neg h]
theorem may_name {d : D} (h : mayD d = true) : nameD d.name = true := by
  obtain ⟨n, o, e⟩ := d
  by_cases h0 : o = 0
  · subst h0; rw [may_any, Bool.and_eq_true] at h; exact h.1
  · rw [may_op h0] at h; simp only [Bool.and_eq_true] at h; exact h.1.1
theorem may_ops {d : D} (h : mayD d = true) (h0 : d.op ≠ 0) : mayO d.op = true ∧ mayE d.evr true = true := by
  obtain ⟨n, o, e⟩ := d
  rw [may_op h0] at h
  simp only [Bool.and_eq_true] at h
  exact ⟨h.1.2, h.2.2⟩
end Rich
end Go.Proofs.YtpdoeapjdifmbaaGreatDoor
