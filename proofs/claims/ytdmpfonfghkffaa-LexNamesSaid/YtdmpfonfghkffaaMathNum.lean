/-
  Plain facts on the bytes of a number (seven bits each, the lowest first): nothing of the program is named here. Conditions: none.
-/
namespace Go.Proofs.Ytdmpfonfghkffaa

/-- The bytes of n, k of them at most. -/
def numB : Nat → Nat → List UInt8
  | 0, _ => []
  | k + 1, n => if n < 128 then [UInt8.ofNat n] else UInt8.ofNat (n % 128 + 128) :: numB k (n / 128)

theorem numB_small (k n : Nat) (h : n < 128) : numB (k + 1) n = [UInt8.ofNat n] := by simp [numB, h]
theorem numB_big (k n : Nat) (h : ¬ n < 128) : numB (k + 1) n = UInt8.ofNat (n % 128 + 128) :: numB k (n / 128) := by simp [numB, h]

theorem numB_more : ∀ (k n : Nat), n < 128 ^ (k + 1) → numB (k + 2) n = numB (k + 1) n
  | 0, n, h => by
    have hs : n < 128 := by simpa using h
    rw [numB_small _ _ hs, numB_small _ _ hs]
  | k + 1, n, h => by
    by_cases hs : n < 128
    · rw [numB_small _ _ hs, numB_small _ _ hs]
    · rw [numB_big _ _ hs, numB_big _ _ hs, numB_more k (n / 128) (by rw [Nat.pow_succ] at h; exact Nat.div_lt_of_lt_mul (by omega))]

theorem numB_len_pos (k n : Nat) : 1 ≤ (numB (k + 1) n).length := by
  by_cases hs : n < 128
  · rw [numB_small _ _ hs]; simp
  · rw [numB_big _ _ hs]; simp
theorem numB_len_le : ∀ (k n : Nat), (numB k n).length ≤ k
  | 0, n => by simp [numB]
  | k + 1, n => by
    by_cases hs : n < 128
    · rw [numB_small _ _ hs]; simp
    · rw [numB_big _ _ hs]; have := numB_len_le k (n / 128); simp; omega

/-- The bytes of a number of the program's kind: nine at most. -/
def num (n : Nat) : List UInt8 := numB 9 n
/-- What the loops of the program carry: of n's bytes those that are left are m's, f + 1 of them at most. -/
def Left (n s f m : Nat) : Prop := (num n).length + 1 = s + (numB (f + 1) m).length ∧ m < 128 ^ (f + 1) ∧ s + f = 9
theorem left_start (n : Nat) (h : n ≤ 9223372036854775807) : Left n 1 8 n := ⟨by show _ + 1 = 1 + (numB 9 n).length; unfold num; omega, by omega, rfl⟩
theorem left_step {n s f m : Nat} (h : Left n s f m) (hm : 128 ≤ m) : ∃ g, f = g + 1 ∧ Left n (s + 1) g (m / 128) := by
  obtain ⟨h1, h2, h3⟩ := h
  cases f with
  | zero => simp at h2; omega
  | succ g =>
    refine ⟨g, rfl, ?_, ?_, by omega⟩
    · rw [numB_big _ _ (by omega)] at h1
      simp at h1; omega
    · rw [Nat.pow_succ] at h2
      exact Nat.div_lt_of_lt_mul (by omega)
theorem left_end {n s f m : Nat} (h : Left n s f m) (hm : m < 128) : (num n).length = s := by
  have h1 := h.1
  rw [numB_small _ _ hm] at h1
  simp at h1; omega
theorem left_s {n s f m : Nat} (h : Left n s f m) : s + f = 9 := h.2.2
/-- The same of the bytes: those that are done, and those of m, are n's. -/
def LeftB (n : Nat) (done : List UInt8) (f m : Nat) : Prop := done ++ numB (f + 1) m = num n ∧ m < 128 ^ (f + 1)
theorem leftB_start (n : Nat) (h : n ≤ 9223372036854775807) : LeftB n [] 8 n := ⟨rfl, by omega⟩
theorem leftB_step {n f m : Nat} {done : List UInt8} (h : LeftB n done f m) (hm : 128 ≤ m) : ∃ g, f = g + 1 ∧ LeftB n (done ++ [UInt8.ofNat (m % 128 + 128)]) g (m / 128) := by
  obtain ⟨h1, h2⟩ := h
  cases f with
  | zero => simp at h2; omega
  | succ g =>
    refine ⟨g, rfl, ?_, ?_⟩
    · rw [numB_big _ _ (by omega)] at h1
      rw [← h1]; simp
    · rw [Nat.pow_succ] at h2
      exact Nat.div_lt_of_lt_mul (by omega)
theorem leftB_end {n f m : Nat} {done : List UInt8} (h : LeftB n done f m) (hm : m < 128) : done ++ [UInt8.ofNat m] = num n := by
  rw [← h.1, numB_small _ _ hm]
theorem leftB_len {n f m : Nat} {done : List UInt8} (h : LeftB n done f m) : done.length + 1 ≤ (num n).length := by
  rw [← h.1, List.length_append]
  have := numB_len_pos f m
  omega
theorem num_len (n : Nat) : 1 ≤ (num n).length ∧ (num n).length ≤ 9 := ⟨numB_len_pos 8 n, numB_len_le 9 n⟩

/-- What the chapter says of a number, or a text, written: the error, and what is then there. -/
def numE (bs : List UInt8) (n : Int) : Int := if n < 0 then 1 else if bs.length + (num n.toNat).length ≤ 4194304 then 0 else 40
def numS (bs : List UInt8) (n : Int) : List UInt8 := if n < 0 then bs else if bs.length + (num n.toNat).length ≤ 4194304 then bs ++ num n.toNat else bs
def textB (s : ByteArray) : List UInt8 := num s.size ++ s.data.toList
def textE (bs : List UInt8) (s : ByteArray) : Int := if bs.length + (textB s).length ≤ 4194304 then 0 else 40
def textS (bs : List UInt8) (s : ByteArray) : List UInt8 := if bs.length + (textB s).length ≤ 4194304 then bs ++ textB s else bs
theorem textB_len (s : ByteArray) : (textB s).length = (num s.size).length + s.size := by simp [textB]
end Go.Proofs.Ytdmpfonfghkffaa
