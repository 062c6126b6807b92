/-
  Plain facts for the law VercmpNothing: what the parts' texts are, and a version built of its parts anew. Nothing of the program is named here. Conditions: as each theorem states.
-/
import Derived.Test.YtmnmnbpecdofnaaDoorMathLaws02
namespace Go.Proofs.YtmnmnbpecdofnaaDoor
open Ver

def sumLen (l : List Pt) : Nat := (l.map fun p => p.2.length).sum
theorem sumLen_cons (p : Pt) (l : List Pt) : sumLen (p :: l) = p.2.length + sumLen l := rfl
theorem dw_len (p : UInt8 → Bool) (m : List UInt8) : (m.takeWhile p).length + (m.dropWhile p).length = m.length := by
  rw [← List.length_append, List.takeWhile_append_dropWhile]
/-- A part with its zeros. -/
def RawOk (p : Pt) : Prop := (4 ≤ p.1 → p.2 ≠ [] ∧ ∀ b ∈ p.2, kindB b = p.1) ∧ (p.1 < 4 → p.2 = [])
theorem raw_ok : ∀ (n : Nat) (l : List UInt8), l.length ≤ n → (∀ p ∈ raw l, RawOk p) ∧ sumLen (raw l) ≤ l.length
  | 0, [], _ => ⟨fun p hp => by simp [raw] at hp, Nat.le_refl _⟩
  | 0, _ :: _, h => by simp at h
  | n + 1, [], _ => ⟨fun p hp => by simp [raw] at hp, Nat.le_refl _⟩
  | n + 1, b :: l, h => by
    have hl : l.length ≤ n := by simpa using h
    by_cases h0 : kindB b = 0
    · rw [raw_cons, if_pos h0]
      obtain ⟨i1, i2⟩ := raw_ok n l hl
      exact ⟨i1, by simp; omega⟩
    · by_cases h4 : kindB b < 4
      · rw [raw_cons, if_neg h0, if_pos h4]
        obtain ⟨i1, i2⟩ := raw_ok n l hl
        refine ⟨fun p hp => ?_, by rw [sumLen_cons]; simp; omega⟩
        rcases List.mem_cons.1 hp with rfl | hp
        · exact ⟨fun h => by simp at h; omega, fun _ => rfl⟩
        · exact i1 p hp
      · have hk : 4 ≤ kindB b := by omega
        have hh : headK (kindB b) (b :: l) = true := by simp [headK]
        rw [raw_run (kindB b) hk _ hh]
        have hd : (List.dropWhile (fun c => kindB c == kindB b) (b :: l)).length ≤ n := by
          have : List.dropWhile (fun c => kindB c == kindB b) (b :: l) = List.dropWhile (fun c => kindB c == kindB b) l := by simp
          rw [this]
          exact Nat.le_trans (List.dropWhile_sublist _).length_le hl
        obtain ⟨i1, i2⟩ := raw_ok n _ hd
        refine ⟨fun p hp => ?_, ?_⟩
        · rcases List.mem_cons.1 hp with rfl | hp
          · refine ⟨fun _ => ⟨by simp, fun c hc => ?_⟩, fun h => absurd h h4⟩
            have := Row.tw_all (p := fun c => kindB c == kindB b) (b :: l) c hc
            simpa using this
          · exact i1 p hp
        · rw [sumLen_cons]
          have := dw_len (fun c => kindB c == kindB b) (b :: l)
          simp only at i2 this ⊢
          omega
/-- A part. -/
def PartOk (p : Pt) : Prop := (p.1 = 4 → p.2 ≠ [] ∧ ∀ b ∈ p.2, kindB b = 4) ∧ (p.1 = 5 → (∀ b ∈ p.2, kindB b = 5) ∧ p.2.dropWhile (fun b => b.toNat == 48) = p.2) ∧ (p.1 < 4 → p.2 = [])
theorem dw_twice (p : UInt8 → Bool) : ∀ l : List UInt8, (l.dropWhile p).dropWhile p = l.dropWhile p
  | [] => rfl
  | b :: l => by
    by_cases h : p b = true
    · simp [h, dw_twice p l]
    · simp [h]
theorem parts_ok (l : List UInt8) : (∀ p ∈ parts l, PartOk p) ∧ sumLen (parts l) ≤ l.length := by
  obtain ⟨h1, h2⟩ := raw_ok _ l (Nat.le_refl _)
  constructor
  · intro p hp
    obtain ⟨q, hq, rfl⟩ := List.mem_map.1 hp
    obtain ⟨r1, r2⟩ := h1 q hq
    refine ⟨fun h => ?_, fun h => ?_, fun h => ?_⟩
    · have h' : q.1 = 4 := h
      have := r1 (by omega)
      unfold norm
      rw [if_neg (by omega)]
      rw [h'] at this
      exact this
    · have h' : q.1 = 5 := h
      have := r1 (by omega)
      unfold norm
      rw [if_pos h']
      rw [h'] at this
      exact ⟨fun b hb => this.2 b ((List.dropWhile_sublist _).subset hb), dw_twice _ _⟩
    · have h' : q.1 < 4 := h
      unfold norm
      rw [if_neg (by omega)]
      exact r2 h'
  · refine Nat.le_trans ?_ h2
    unfold parts sumLen
    rw [List.map_map]
    clear h1 h2
    induction raw l with
    | nil => simp
    | cons q r ih =>
      simp only [List.map_cons, List.sum_cons, Function.comp]
      have : (norm q).2.length ≤ q.2.length := by
        unfold norm
        split
        · exact (List.dropWhile_sublist _).length_le
        · exact Nat.le_refl _
      omega
theorem tw_full {p : UInt8 → Bool} : ∀ {l : List UInt8}, (∀ b ∈ l, p b = true) → l.takeWhile p = l ∧ l.dropWhile p = []
  | [], _ => ⟨rfl, rfl⟩
  | b :: l, h => by
    have hb := h b (by simp)
    obtain ⟨i1, i2⟩ := tw_full (l := l) (fun c hc => h c (by simp [hc]))
    exact ⟨by simp [hb, i1], by simp [hb, i2]⟩
theorem parts_same (k : Nat) (hk : 4 ≤ k) (l : List UInt8) (hl : l ≠ []) (h : ∀ b ∈ l, kindB b = k) : parts l = [norm (k, l)] := by
  have hh : headK k l = true := by
    cases l with
    | nil => exact absurd rfl hl
    | cons b r => simp [headK, h b (by simp)]
  obtain ⟨t1, t2⟩ := tw_full (p := fun b => kindB b == k) (l := l) (fun b hb => by simp [h b hb])
  unfold parts
  rw [raw_run k hk l hh, t1, t2]
  simp [raw]
/-- What stands ahead of a part's text, when it is written anew. -/
def headOf (k m : Nat) : List UInt8 := if k = 1 then [126] else if k = 3 then [94] else if k = 5 then List.replicate m 48 else []
theorem dw_zeros (t : List UInt8) : ∀ m, (List.replicate m (48 : UInt8) ++ t).dropWhile (fun b => b.toNat == 48) = t.dropWhile (fun b => b.toNat == 48)
  | 0 => rfl
  | m + 1 => by
    rw [List.replicate_succ, List.cons_append, List.dropWhile_cons_of_pos (by decide), dw_zeros t m]
theorem parts_anew (p : Pt) (m : Nat) (hm : 1 ≤ m) (hp : PartOk p) (hk : p.1 = 1 ∨ p.1 = 3 ∨ p.1 = 4 ∨ p.1 = 5) : parts (headOf p.1 m ++ p.2) = [p] := by
  obtain ⟨k, t⟩ := p
  obtain ⟨h4, h5, h0⟩ := hp
  simp only at h4 h5 h0 hk ⊢
  rcases hk with rfl | rfl | rfl | rfl
  · rw [h0 (by omega)]; rfl
  · rw [h0 (by omega)]; rfl
  · obtain ⟨a1, a2⟩ := h4 rfl
    show parts ([] ++ t) = _
    rw [List.nil_append, parts_same 4 (Nat.le_refl _) t a1 a2]; rfl
  · obtain ⟨a1, a2⟩ := h5 rfl
    show parts (List.replicate m 48 ++ t) = _
    rw [parts_same 5 (by omega) _ (by
      intro h
      have := congrArg List.length h
      simp at this
      omega) (by
      intro b hb
      rcases List.mem_append.1 hb with hb | hb
      · rw [List.eq_of_mem_replicate hb]; decide
      · exact a1 b hb)]
    unfold norm
    rw [if_pos rfl]
    simp only
    rw [dw_zeros, a2]
/-- A text that ends in a byte that is no part. -/
def EndsBy (nb : UInt8) (S : List UInt8) : Prop := ∃ R, S = R ++ [nb]
theorem ends_step {nb : UInt8} (hn : kindB nb = 0) {S : List UInt8} (h : EndsBy nb S) (y : List UInt8) : parts (S ++ y ++ [nb]) = parts S ++ parts y ∧ EndsBy nb (S ++ y ++ [nb]) := by
  obtain ⟨R, rfl⟩ := h
  refine ⟨?_, ⟨_, rfl⟩⟩
  rw [parts_app_plain _ nb (by omega), parts_nothing nb hn, show parts [] = [] from rfl, List.append_nil, List.append_assoc, List.singleton_append, parts_app_plain _ nb (by omega), parts_nothing nb hn, parts_app_plain _ nb (by omega), parts_nothing nb hn, show parts [] = [] from rfl, List.append_nil]
theorem nothing_eq (nb : UInt8) (hn : kindB nb = 0) (a b : ByteArray) : cmpB (⟨#[nb]⟩ ++ a ++ ⟨#[nb]⟩) b = cmpB a b := by
  unfold cmpB cmpV
  simp only [app_list]
  have : parts ([nb] ++ a.data.toList ++ [nb]) = parts a.data.toList := by
    rw [parts_app_plain _ nb (by omega), parts_nothing nb hn, show parts [] = [] from rfl, List.append_nil, List.singleton_append, parts_nothing nb hn]
  rw [this]
theorem anew_eq {a S : ByteArray} (h : parts S.data.toList = parts a.data.toList) (b : ByteArray) : cmpB a S = 0 ∧ cmpB S b = cmpB a b := by
  unfold cmpB cmpV
  rw [h]
  exact ⟨cmp_self _, rfl⟩
end Go.Proofs.YtmnmnbpecdofnaaDoor
