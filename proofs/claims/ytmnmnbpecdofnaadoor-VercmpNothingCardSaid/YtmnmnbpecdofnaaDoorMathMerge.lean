/-
  Plain facts on rows as functions of places: swaps, ranges that change places, a rotation, an element put in, two sorted rows merged. Nothing of the program is named here. Conditions: as each theorem states.
-/
import Derived.Test.YtmnmnbpecdofnaaDoorMathSort
namespace Go.Proofs.YtmnmnbpecdofnaaDoor
namespace Row
section
variable {α : Type} {c : α → α → Int}

/-- The places from a to b. -/
def seg (f : Nat → α) (a b : Nat) : List α := (List.range' a (b - a)).map f
theorem seg_len (f : Nat → α) (a b : Nat) : (seg f a b).length = b - a := by simp [seg]
theorem seg_self (f : Nat → α) (a : Nat) : seg f a a = [] := by simp [seg]
theorem seg_app (f : Nat → α) (a m b : Nat) (h1 : a ≤ m) (h2 : m ≤ b) : seg f a b = seg f a m ++ seg f m b := by
  unfold seg
  rw [← List.map_append]
  congr 1
  have e : b - a = (m - a) + (b - m) := by omega
  rw [e, ← List.range'_append_1]
  congr 2
  omega
theorem seg_one (f : Nat → α) (a : Nat) : seg f a (a + 1) = [f a] := by simp [seg]
theorem seg_get (f : Nat → α) (a b i : Nat) (h : i < b - a) : (seg f a b)[i]? = some (f (a + i)) := by
  simp [seg, h]
theorem seg_congr (f g : Nat → α) (a b a' b' : Nat) (he : b - a = b' - a') (h : ∀ k, k < b - a → f (a + k) = g (a' + k)) : seg f a b = seg g a' b' := by
  apply List.ext_getElem?
  intro i
  by_cases hi : i < b - a
  · rw [seg_get f a b i hi, seg_get g a' b' i (by omega), h i hi]
  · rw [List.getElem?_eq_none (by rw [seg_len]; omega), List.getElem?_eq_none (by rw [seg_len]; omega)]
theorem seg_same (f g : Nat → α) (a b : Nat) (h : ∀ k, a ≤ k → k < b → f k = g k) : seg f a b = seg g a b :=
  seg_congr f g a b a b rfl (fun k hk => h (a + k) (by omega) (by omega))
theorem seg_mem {f : Nat → α} {a b : Nat} {x : α} (h : x ∈ seg f a b) : ∃ k, a ≤ k ∧ k < b ∧ x = f k := by
  unfold seg at h
  rw [List.mem_map] at h
  obtain ⟨k, h1, h2⟩ := h
  rw [List.mem_range'_1] at h1
  exact ⟨k, h1.1, by omega, h2.symm⟩
theorem seg_in (f : Nat → α) (a b k : Nat) (h1 : a ≤ k) (h2 : k < b) : f k ∈ seg f a b := by
  unfold seg
  rw [List.mem_map]
  exact ⟨k, by rw [List.mem_range'_1]; omega, rfl⟩
theorem seg_sorted {f : Nat → α} {a b : Nat} (h : Sorted c (seg f a b)) (j k : Nat) (h1 : a ≤ j) (h2 : j < k) (h3 : k < b) : c (f j) (f k) ≤ 0 := by
  rw [seg_app f a k b (by omega) (by omega)] at h
  unfold Sorted at h
  rw [List.pairwise_append] at h
  exact h.2.2 _ (seg_in f a k j h1 h2) _ (seg_in f k b k (Nat.le_refl _) h3)
theorem sorted_left {l m : List α} (h : Sorted c (l ++ m)) : Sorted c l := (List.pairwise_append.1 h).1
theorem sorted_right {l m : List α} (h : Sorted c (l ++ m)) : Sorted c m := (List.pairwise_append.1 h).2.1

/-- Two places change. -/
def swp (f : Nat → α) (i j : Nat) : Nat → α := fun k => if k = i then f j else if k = j then f i else f k
/-- Two ranges change places, the second one behind the first. -/
def swr (f : Nat → α) (a b n : Nat) : Nat → α := fun k => if a ≤ k ∧ k < a + n then f (k - a + b) else if b ≤ k ∧ k < b + n then f (k - b + a) else f k
theorem swr_zero (f : Nat → α) (a b : Nat) : swr f a b 0 = f := by
  funext k
  unfold swr
  rw [if_neg (by omega), if_neg (by omega)]
theorem swr_step (f : Nat → α) (a b n : Nat) (h : a + n < b) : swp (swr f a b n) (a + n) (b + n) = swr f a b (n + 1) := by
  funext k
  unfold swp swr
  repeat' split
  all_goals first | (exfalso; omega) | rfl | (congr 1; omega)
/-- The ranges from a to m, and from m to b, change places. -/
def rot (f : Nat → α) (a m b : Nat) : Nat → α := fun k => if a ≤ k ∧ k < a + (b - m) then f (k + (m - a)) else if a + (b - m) ≤ k ∧ k < b then f (k - (b - m)) else f k
theorem rot_more (f : Nat → α) (m i j : Nat) (hm : i ≤ m) (h : j < i) : rot (swr f (m - i) m j) (m - (i - j)) m (m + j) = rot f (m - i) m (m + j) := by
  funext k
  unfold rot swr
  repeat' split
  all_goals first | (exfalso; omega) | rfl | (congr 1; omega)
theorem rot_less (f : Nat → α) (m i j : Nat) (hm : i ≤ m) (h : i < j) : rot (swr f (m - i) (m + j - i) i) (m - i) m (m + (j - i)) = rot f (m - i) m (m + j) := by
  funext k
  unfold rot swr
  repeat' split
  all_goals first | (exfalso; omega) | rfl | (congr 1; omega)
theorem rot_same (f : Nat → α) (m i : Nat) (hm : i ≤ m) : swr f (m - i) m i = rot f (m - i) m (m + i) := by
  funext k
  unfold rot swr
  repeat' split
  all_goals first | (exfalso; omega) | rfl | (congr 1; omega)
theorem rot_left (f : Nat → α) (a m b : Nat) (h1 : a ≤ m) (h2 : m ≤ b) : seg (rot f a m b) a (a + (b - m)) = seg f m b :=
  seg_congr _ _ _ _ _ _ (by omega) (fun k hk => by
    unfold rot
    rw [if_pos (by omega)]
    congr 1
    omega)
theorem rot_right (f : Nat → α) (a m b : Nat) (h1 : a ≤ m) (h2 : m ≤ b) : seg (rot f a m b) (a + (b - m)) b = seg f a m :=
  seg_congr _ _ _ _ _ _ (by omega) (fun k hk => by
    unfold rot
    rw [if_neg (by omega), if_pos (by omega)]
    congr 1
    omega)
theorem rot_out (f : Nat → α) (a m b k : Nat) (h : k < a ∨ b ≤ k) (h1 : a ≤ m) (h2 : m ≤ b) : rot f a m b k = f k := by
  unfold rot
  rw [if_neg (by omega), if_neg (by omega)]

/-- What stood at i stands at j, ahead of it; the others make room. -/
def mv (f : Nat → α) (i j : Nat) : Nat → α := fun k => if k = j then f i else if j < k ∧ k ≤ i then f (k - 1) else f k
theorem mv_self (f : Nat → α) (i : Nat) : mv f i i = f := by
  funext k
  unfold mv
  by_cases h : k = i
  · rw [if_pos h, h]
  · rw [if_neg h, if_neg (by omega)]
theorem mv_step (f : Nat → α) (i j : Nat) (h0 : 0 < j) (h : j ≤ i) : swp (mv f i j) j (j - 1) = mv f i (j - 1) := by
  funext k
  unfold swp mv
  repeat' split
  all_goals first | (exfalso; omega) | rfl | (congr 1; omega)
theorem mv_seg (f : Nat → α) (a i j : Nat) (h1 : a ≤ j) (h2 : j ≤ i) : seg (mv f i j) a (i + 1) = seg f a j ++ f i :: seg f j i := by
  rw [seg_app _ a j (i + 1) h1 (by omega), seg_app _ j (j + 1) (i + 1) (by omega) (by omega), seg_one]
  have e1 : seg (mv f i j) a j = seg f a j := seg_same _ _ _ _ (fun k _ hk => by unfold mv; rw [if_neg (by omega), if_neg (by omega)])
  have e2 : seg (mv f i j) (j + 1) (i + 1) = seg f j i := seg_congr _ _ _ _ _ _ (by omega) (fun k hk => by
    unfold mv
    rw [if_neg (by omega), if_pos (by omega)]
    congr 1
    omega)
  have e3 : mv f i j j = f i := by unfold mv; rw [if_pos rfl]
  rw [e1, e2, e3]
  rfl
theorem mv_out (f : Nat → α) (i j k : Nat) (h : k < j ∨ i < k) (hj : j ≤ i) : mv f i j k = f k := by
  unfold mv
  rw [if_neg (by omega), if_neg (by omega)]
theorem mv_below (f : Nat → α) (i j : Nat) (h0 : 0 < j) : mv f i j (j - 1) = f (j - 1) := by
  unfold mv
  rw [if_neg (by omega), if_neg (by omega)]
theorem mv_at (f : Nat → α) (i j : Nat) : mv f i j j = f i := by unfold mv; rw [if_pos rfl]
theorem tw_count {p : α → Bool} : ∀ (l : List α) (n : Nat), (∀ k, k < n → ∃ y, l[k]? = some y ∧ p y = true) → (∀ y, l[n]? = some y → p y = false) → (l.takeWhile p).length = n
  | [], 0, _, _ => rfl
  | [], n + 1, h, _ => by obtain ⟨y, h1, _⟩ := h 0 (by omega); simp at h1
  | x :: l, 0, _, h => by
    have := h x rfl
    simp [this]
  | x :: l, n + 1, h1, h2 => by
    obtain ⟨y, e, hy⟩ := h1 0 (by omega)
    have e' : x = y := by simpa using e
    subst e'
    rw [List.takeWhile_cons, if_pos hy, List.length_cons, tw_count l n (fun k hk => by simpa using h1 (k + 1) (by omega)) (fun y hy' => h2 y (by simpa using hy'))]
/-- Put in where the loop stopped. -/
theorem put_seg (ho : Order c) (f : Nat → α) (a i j : Nat) (h1 : a ≤ j) (h2 : j ≤ i) (hin : ∀ k, j ≤ k → k < i → c (f i) (f k) < 0) (hst : j = a ∨ ¬ c (f i) (f (j - 1)) < 0) : put c (f i) (seg f a i) = seg f a j ++ f i :: seg f j i := by
  have hb : behind c (f i) (seg f a i) = i - j := by
    unfold behind
    apply tw_count
    · intro k hk
      refine ⟨f (i - 1 - k), ?_, ?_⟩
      · rw [List.getElem?_reverse (by rw [seg_len]; omega), seg_len, seg_get _ _ _ _ (by omega)]
        congr 2
        omega
      · have := hin (i - 1 - k) (by omega) (by omega)
        have := ho.turn (f i) (f (i - 1 - k))
        simp only [decide_eq_true_eq]
        omega
    · intro y hy
      by_cases hj : j = a
      · rw [List.getElem?_eq_none (by simp [seg_len]; omega)] at hy
        cases hy
      · rw [List.getElem?_reverse (by rw [seg_len]; omega), seg_len, seg_get _ _ _ _ (by omega)] at hy
        have e : a + (i - a - 1 - (i - j)) = j - 1 := by omega
        rw [e] at hy
        have hy' := Option.some.inj hy
        rcases hst with hst | hst
        · exact absurd hst hj
        · have := ho.turn (f i) (f (j - 1))
          rw [hy'] at hst this
          simp only [decide_eq_false_iff_not]
          omega
  unfold put
  rw [hb, seg_len, seg_app f a j i h1 h2]
  have e : i - a - (i - j) = (seg f a j).length := by rw [seg_len]; omega
  rw [e, List.take_left, List.drop_left]
theorem sort_snoc (l : List α) (x : α) : sort c (l ++ [x]) = put c x (sort c l) := by simp [sort]
theorem sort_nil : sort c ([] : List α) = [] := rfl

theorem same_app (v : α) (l m : List α) : same c v (l ++ m) = same c v l ++ same c v m := by simp [same]
/-- Whoever is in order, and holds the same, class by class, is the row sorted. -/
theorem is_sort (ho : Order c) (l m : List α) (h1 : Sorted c m) (h2 : ∀ v, same c v m = same c v l) : m = sort c l :=
  sorted_one ho _ _ h1 (sort_spec ho l).1 (fun v => (h2 v).trans ((sort_spec ho l).2.2 v).symm)
theorem sort_two (ho : Order c) (l m : List α) : sort c (sort c l ++ sort c m) = sort c (l ++ m) :=
  is_sort ho _ _ (sort_spec ho _).1 (fun v => by rw [(sort_spec ho _).2.2 v, same_app, same_app, (sort_spec ho l).2.2 v, (sort_spec ho m).2.2 v])
theorem same_none (ho : Order c) {l : List α} {x v : α} (h : ∀ y ∈ l, c y x < 0) (hv : c x v ≤ 0) : same c v l = [] := by
  unfold same
  rw [List.filter_eq_nil_iff]
  intro y hy
  have := ho.lt_le y x v (h y hy) hv
  simp only [beq_iff_eq]
  omega
/-- Two sorted rows, cut so that the first parts belong ahead of the second ones. -/
theorem merge_cut (ho : Order c) (l1 l2 r1 r2 : List α) (hl : Sorted c (l1 ++ l2)) (hr : Sorted c (r1 ++ r2)) (h1 : ∀ x ∈ l2, ∀ y ∈ r1, c y x < 0) (h2 : ∀ x ∈ l1, ∀ y ∈ r2, c x y ≤ 0) :
    sort c (l1 ++ r1) ++ sort c (l2 ++ r2) = sort c ((l1 ++ l2) ++ (r1 ++ r2)) := by
  apply is_sort ho
  · unfold Sorted
    rw [List.pairwise_append]
    refine ⟨(sort_spec ho _).1, (sort_spec ho _).1, fun x hx y hy => ?_⟩
    have hx' := sort_mem ho _ _ hx
    have hy' := sort_mem ho _ _ hy
    rw [List.mem_append] at hx' hy'
    have hll := (List.pairwise_append.1 hl).2.2
    have hrr := (List.pairwise_append.1 hr).2.2
    rcases hx' with hx' | hx'
    · rcases hy' with hy' | hy'
      · exact hll x hx' y hy'
      · exact h2 x hx' y hy'
    · rcases hy' with hy' | hy'
      · have := h1 y hy' x hx'
        omega
      · exact hrr x hx' y hy'
  · intro v
    rw [same_app, (sort_spec ho _).2.2 v, (sort_spec ho _).2.2 v]
    simp only [same_app]
    -- of L2 and R1 just one has the class of v
    have key : same c v r1 ++ same c v l2 = same c v l2 ++ same c v r1 := by
      cases hs : same c v l2 with
      | nil => simp
      | cons x t =>
        have hx : x ∈ same c v l2 := by rw [hs]; simp
        unfold same at hx
        rw [List.mem_filter] at hx
        have hx0 : c x v = 0 := by simpa using hx.2
        rw [same_none ho (l := r1) (x := x) (v := v) (fun y hy => h1 x hx.1 y hy) (by omega)]
        simp
    rw [List.append_assoc, ← List.append_assoc (same c v r1), key]
    simp only [List.append_assoc]
end
end Row
end Go.Proofs.YtmnmnbpecdofnaaDoor
