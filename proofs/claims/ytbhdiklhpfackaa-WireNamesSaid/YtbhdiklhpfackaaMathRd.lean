/-
  Plain facts on reading a number's bytes: nothing of the program is named here. Conditions: as each theorem states.
-/
import Derived.Test.YtbhdiklhpfackaaMathNum
namespace Go.Proofs.Ytbhdiklhpfackaa

/-- f bytes more at most, i are read, the next is at p, their value so far is n. -/
def scan (l : List UInt8) (least most : Int) : Nat → Nat → Nat → Nat → Except Int (Nat × Nat)
  | 0, _, _, _ => .error 20
  | f + 1, i, p, n =>
    match l[p]? with
    | none => .error 8
    | some b =>
      if 128 ≤ b.toNat then scan l least most f (i + 1) (p + 1) (n + b.toNat % 128 * 128 ^ i)
      else if b.toNat = 0 ∧ 0 < i then .error 11
      else if ((n + b.toNat * 128 ^ i : Nat) : Int) < least ∨ most < ((n + b.toNat * 128 ^ i : Nat) : Int) then .error 20
      else .ok (n + b.toNat * 128 ^ i, p + 1)

/-- The number at p. -/
def rdNum (l : List UInt8) (least most : Int) (p : Nat) : Except Int (Nat × Nat) := scan l least most 9 0 p 0

theorem byte_lt (b : UInt8) : b.toNat < 256 := UInt8.toNat_lt b
theorem ofNat_toNat (n : Nat) (h : n < 256) : (UInt8.ofNat n).toNat = n := UInt8.toNat_ofNat_of_lt' (by simpa using h)

/-- What was written is read. -/
theorem scan_reads (l : List UInt8) (least most : Int) : ∀ (f i p n m : Nat) (rest : List UInt8), m < 128 ^ (f + 1) → (i = 0 ∨ 0 < m) → l.drop p = numB (f + 1) m ++ rest →
    least ≤ ((n + m * 128 ^ i : Nat) : Int) → ((n + m * 128 ^ i : Nat) : Int) ≤ most → scan l least most (f + 1) i p n = .ok (n + m * 128 ^ i, p + (numB (f + 1) m).length) := by
  intro f
  induction f with
  | zero =>
    intro i p n m rest hm hi hl h1 h2
    have hs : m < 128 := by simpa using hm
    rw [numB_small _ _ hs] at hl ⊢
    have hp : l[p]? = some (UInt8.ofNat m) := by rw [← List.head?_drop, hl]; rfl
    have ht : (UInt8.ofNat m).toNat = m := ofNat_toNat m (by omega)
    simp only [scan, hp, ht]
    rw [if_neg (by omega), if_neg (by omega), if_neg (by omega)]
    rfl
  | succ f ih =>
    intro i p n m rest hm hi hl h1 h2
    by_cases hs : m < 128
    · rw [numB_small _ _ hs] at hl ⊢
      have hp : l[p]? = some (UInt8.ofNat m) := by rw [← List.head?_drop, hl]; rfl
      have ht : (UInt8.ofNat m).toNat = m := ofNat_toNat m (by omega)
      rw [scan]
      simp only [hp, ht]
      rw [if_neg (by omega), if_neg (by omega), if_neg (by omega)]
      rfl
    · rw [numB_big _ _ hs] at hl ⊢
      have hp : l[p]? = some (UInt8.ofNat (m % 128 + 128)) := by rw [← List.head?_drop, hl]; rfl
      have ht : (UInt8.ofNat (m % 128 + 128)).toNat = m % 128 + 128 := ofNat_toNat _ (by omega)
      have hd : l.drop (p + 1) = numB (f + 1) (m / 128) ++ rest := by
        rw [← List.drop_drop, hl]; rfl
      have e : n + (m % 128 + 128) % 128 * 128 ^ i + m / 128 * 128 ^ (i + 1) = n + m * 128 ^ i := by
        rw [Nat.pow_succ]
        have h3 : (m % 128 + 128) % 128 = m % 128 := by omega
        rw [h3]
        have h4 : m / 128 * (128 ^ i * 128) = (m / 128 * 128) * 128 ^ i := by rw [Nat.mul_comm (128 ^ i) 128, Nat.mul_assoc]
        rw [h4, Nat.add_assoc, ← Nat.add_mul]
        congr 2
        omega
      have hm2 : m / 128 < 128 ^ (f + 1) := by rw [Nat.pow_succ] at hm; exact Nat.div_lt_of_lt_mul (by omega)
      have key := ih (i + 1) (p + 1) (n + (m % 128 + 128) % 128 * 128 ^ i) (m / 128) rest hm2 (.inr (by omega)) hd (by rw [e]; exact h1) (by rw [e]; exact h2)
      rw [scan]
      simp only [hp, ht]
      rw [if_pos (by omega), key, e]
      simp only [List.length_cons]
      congr 2
      omega

/-- What is read is what would be written, and is within its bounds. -/
theorem scan_ok (l : List UInt8) (least most : Int) : ∀ (f i p n v q : Nat), scan l least most f i p n = .ok (v, q) →
    ∃ m, v = n + m * 128 ^ i ∧ (0 < i → 0 < m) ∧ m < 128 ^ f ∧ q = p + (numB f m).length ∧ (l.drop p).take (numB f m).length = numB f m ∧ q ≤ l.length ∧ least ≤ (v : Int) ∧ (v : Int) ≤ most := by
  intro f
  induction f with
  | zero => intro i p n v q h; simp [scan] at h
  | succ f ih =>
    intro i p n v q h
    rw [scan] at h
    cases hp : l[p]? with
    | none => simp [hp] at h
    | some b =>
      simp only [hp] at h
      have hb := byte_lt b
      have hpl : p < l.length := (List.getElem?_eq_some_iff.1 hp).1
      have hdrop : l.drop p = b :: l.drop (p + 1) := by
        rw [List.drop_eq_getElem_cons hpl]
        congr 1
        rw [List.getElem?_eq_getElem hpl] at hp
        exact Option.some.inj hp
      by_cases hbig : 128 ≤ b.toNat
      · rw [if_pos hbig] at h
        obtain ⟨m, h1, h2, h3, h4, h5, h6, h7, h8⟩ := ih _ _ _ _ _ h
        have hm0 : 0 < m := h2 (by omega)
        have hM : ¬ (b.toNat % 128 + m * 128) < 128 := by omega
        have e1 : (b.toNat % 128 + m * 128) / 128 = m := by omega
        have e2 : UInt8.ofNat ((b.toNat % 128 + m * 128) % 128 + 128) = b := by
          have e3 : (b.toNat % 128 + m * 128) % 128 + 128 = b.toNat := by omega
          rw [e3, UInt8.ofNat_toNat]
        refine ⟨b.toNat % 128 + m * 128, ?_, fun _ => by omega, ?_, ?_, ?_, h6, h7, h8⟩
        · rw [h1, Nat.pow_succ, Nat.add_mul, Nat.add_assoc]
          congr 2
          rw [Nat.mul_comm (128 ^ i) 128, Nat.mul_assoc]
        · rw [Nat.pow_succ]; omega
        · rw [numB_big _ _ hM, e1, h4]; simp only [List.length_cons]; omega
        · rw [numB_big _ _ hM, e1, e2, hdrop]
          simp only [List.length_cons, List.take_succ_cons, h5]
      · rw [if_neg hbig] at h
        by_cases hz : b.toNat = 0 ∧ 0 < i
        · rw [if_pos hz] at h; cases h
        · rw [if_neg hz] at h
          by_cases hr : ((n + b.toNat * 128 ^ i : Nat) : Int) < least ∨ most < ((n + b.toNat * 128 ^ i : Nat) : Int)
          · rw [if_pos hr] at h; cases h
          · rw [if_neg hr] at h
            injection h with h
            injection h with h1 h2
            have hlt : b.toNat < 128 := by omega
            refine ⟨b.toNat, h1.symm, fun _ => by omega, ?_, ?_, ?_, by omega, by omega, by omega⟩
            · have h128 : 128 ^ (f + 1) = 128 ^ f * 128 := Nat.pow_succ ..
              have hp128 : 0 < 128 ^ f := Nat.pow_pos (by omega)
              omega
            · rw [numB_small _ _ hlt]; simp only [List.length_singleton]; omega
            · rw [numB_small _ _ hlt, hdrop, UInt8.ofNat_toNat]; rfl

theorem rdNum_reads (l : List UInt8) (least most : Int) (p m : Nat) (rest : List UInt8) (hm : m ≤ 9223372036854775807) (hl : l.drop p = num m ++ rest) (h1 : least ≤ (m : Int)) (h2 : (m : Int) ≤ most) :
    rdNum l least most p = .ok (m, p + (num m).length) := by
  have h := scan_reads l least most 8 0 p 0 m rest (by omega) (.inl rfl) hl (by simpa using h1) (by simpa using h2)
  unfold rdNum num
  simpa using h
theorem rdNum_ok {l : List UInt8} {least most : Int} {p v q : Nat} (h : rdNum l least most p = .ok (v, q)) :
    q = p + (num v).length ∧ (l.drop p).take (num v).length = num v ∧ q ≤ l.length ∧ v ≤ 9223372036854775807 ∧ least ≤ (v : Int) ∧ (v : Int) ≤ most := by
  obtain ⟨m, h1, _, h3, h4, h5, h6, h7, h8⟩ := scan_ok l least most 9 0 p 0 v q h
  have e : v = m := by simpa using h1
  subst e
  exact ⟨h4, h5, h6, by omega, h7, h8⟩
end Go.Proofs.Ytbhdiklhpfackaa
