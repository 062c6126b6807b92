/-
  Plain facts on rows that are kept in order by a comparison (chapter 2's Sort): nothing of the program is named here. Conditions: as each theorem states.
-/
import Derived.WalkKit
namespace Go.Proofs.YtmnmnbpecdofnaaDoor
namespace Row
section
variable {α : Type} {c : α → α → Int}

/-- How many of the last ones are above x. -/
def behind (c : α → α → Int) (x : α) (l : List α) : Nat := (l.reverse.takeWhile (fun y => decide (0 < c y x))).length
/-- Put in behind the last one that is not above it. -/
def put (c : α → α → Int) (x : α) (l : List α) : List α := l.take (l.length - behind c x l) ++ x :: l.drop (l.length - behind c x l)
def sort (c : α → α → Int) (l : List α) : List α := l.foldl (fun out x => put c x out) []
/-- None is above a later one. -/
def Sorted (c : α → α → Int) (l : List α) : Prop := l.Pairwise (fun a b => c a b ≤ 0)
def same (c : α → α → Int) (v : α) (l : List α) : List α := l.filter (fun y => c y v == 0)

structure Order (c : α → α → Int) : Prop where
  turn : ∀ a b, c b a = - c a b
  le : ∀ a b d, c a b ≤ 0 → c b d ≤ 0 → c a d ≤ 0

theorem Order.self (h : Order c) (a : α) : c a a = 0 := by have := h.turn a a; omega
theorem Order.lt_le (h : Order c) (a b d : α) (h1 : c a b < 0) (h2 : c b d ≤ 0) : c a d < 0 := by
  have h3 := h.le a b d (by omega) h2
  by_cases h4 : c a d = 0
  · have h5 := h.turn a d
    have h6 := h.le b d a h2 (by omega)
    have h7 := h.turn a b
    omega
  · omega
theorem Order.eq_trans (h : Order c) (a b d : α) (h1 : c a b = 0) (h2 : c b d = 0) : c a d = 0 := by
  have h3 := h.le a b d (by omega) (by omega)
  have h4 := h.turn a b
  have h5 := h.turn b d
  have h6 := h.le d b a (by omega) (by omega)
  have h7 := h.turn a d
  omega

theorem behind_le (x : α) (l : List α) : behind c x l ≤ l.length := by
  have := (List.takeWhile_sublist (l := l.reverse) (fun y => decide (0 < c y x))).length_le
  simpa [behind] using this
theorem put_len (x : α) (l : List α) : (put c x l).length = l.length + 1 := by
  have := behind_le (c := c) x l
  simp [put]
  omega
theorem tw_all {p : α → Bool} : ∀ (l : List α) (y : α), y ∈ l.takeWhile p → p y = true
  | [], y, h => by simp at h
  | a :: l, y, h => by
    cases hp : p a with
    | false => simp [hp] at h
    | true =>
      simp [hp] at h
      rcases h with h | h
      · rw [h]; exact hp
      · exact tw_all l y h
theorem tw_split {p : α → Bool} (l : List α) : l = l.takeWhile p ++ l.drop (l.takeWhile p).length := by
  induction l with
  | nil => rfl
  | cons a l ih =>
    cases hp : p a with
    | false => simp [hp]
    | true =>
      simp [hp]
      exact ih
/-- Those behind are all above x. -/
theorem behind_all (x : α) (l : List α) : ∀ y ∈ l.drop (l.length - behind c x l), 0 < c y x := by
  intro y hy
  have e : l.drop (l.length - behind c x l) = (l.reverse.takeWhile (fun y => decide (0 < c y x))).reverse := by
    have h1 := tw_split (p := fun y => decide (0 < c y x)) l.reverse
    have h2 : l = (l.reverse.drop (behind c x l)).reverse ++ (l.reverse.takeWhile (fun y => decide (0 < c y x))).reverse := by
      rw [← List.reverse_append]
      exact List.reverse_eq_iff.1 (by simpa [behind] using h1)
    have h3 : ((l.reverse.drop (behind c x l)).reverse).length = l.length - behind c x l := by simp
    generalize (l.reverse.takeWhile (fun y => decide (0 < c y x))).reverse = u at *
    generalize (l.reverse.drop (behind c x l)).reverse = t at *
    generalize l.length - behind c x l = n at *
    subst h2
    subst h3
    simp
  rw [e, List.mem_reverse] at hy
  simpa using tw_all _ y hy
/-- The one ahead of them is not above x. -/
theorem behind_last (x : α) (l : List α) (n : Nat) (hn : n + 1 = l.length - behind c x l) (y : α) (hy : l[n]? = some y) : c y x ≤ 0 := by
  have h0 := behind_le (c := c) x l
  have key : ∀ (m : List α) (p : α → Bool) (b : α), m[(m.takeWhile p).length]? = some b → p b = false := by
    intro m p
    induction m with
    | nil => intro b h; simp at h
    | cons a m ih =>
      intro b h
      cases hp : p a with
      | false =>
        simp [hp] at h
        rw [← h]; exact hp
      | true =>
        simp [hp] at h
        exact ih b h
  have := key l.reverse (fun y => decide (0 < c y x)) y (by
    have : (l.reverse.takeWhile (fun y => decide (0 < c y x))).length = l.length - 1 - n := by unfold behind at hn h0; omega
    rw [this, List.getElem?_reverse (by omega)]
    rw [← hy]
    congr 1
    omega)
  simpa using this
theorem put_mem (x : α) (l : List α) (y : α) : y ∈ put c x l ↔ y = x ∨ y ∈ l := by
  have e := List.take_append_drop (l.length - behind c x l) l
  unfold put
  constructor
  · intro h
    simp only [List.mem_append, List.mem_cons] at h
    rcases h with h | h | h
    · exact .inr (List.mem_of_mem_take h)
    · exact .inl h
    · exact .inr (List.mem_of_mem_drop h)
  · intro h
    simp only [List.mem_append, List.mem_cons]
    rcases h with h | h
    · exact .inr (.inl h)
    · rw [← e, List.mem_append] at h
      rcases h with h | h
      · exact .inl h
      · exact .inr (.inr h)
theorem put_sorted (ho : Order c) (x : α) (l : List α) (h : Sorted c l) : Sorted c (put c x l) := by
  have e := List.take_append_drop (l.length - behind c x l) l
  have hb := behind_all (c := c) x l
  unfold Sorted at h
  rw [← e, List.pairwise_append] at h
  obtain ⟨h1, h2, h3⟩ := h
  unfold Sorted put
  rw [List.pairwise_append, List.pairwise_cons]
  refine ⟨h1, ⟨fun y hy => by have := hb y hy; have := ho.turn y x; omega, h2⟩, fun a ha b hb' => ?_⟩
  have hax : c a x ≤ 0 := by
    generalize hn : l.length - behind c x l = n at *
    cases n with
    | zero => simp at ha
    | succ n =>
      have hlen : n + 1 ≤ l.length := by omega
      have hlast : l[n]? = some (l[n]'(by omega)) := List.getElem?_eq_getElem (by omega)
      have h4 := behind_last (c := c) x l n (by omega) _ hlast
      rw [List.take_succ_eq_append_getElem (by omega), List.mem_append] at ha
      rcases ha with ha | ha
      · rw [List.take_succ_eq_append_getElem (by omega), List.pairwise_append] at h1
        exact ho.le a _ x (h1.2.2 a ha _ (by simp)) h4
      · simp at ha
        rw [ha]; exact h4
  rw [List.mem_cons] at hb'
  rcases hb' with hb' | hb'
  · rw [hb']; exact hax
  · exact h3 a ha b hb'
theorem put_same (ho : Order c) (x v : α) (l : List α) : same c v (put c x l) = same c v l ++ (if c x v = 0 then [x] else []) := by
  have e := List.take_append_drop (l.length - behind c x l) l
  have hb := behind_all (c := c) x l
  unfold same put
  by_cases hx : c x v = 0
  · have hnone : (l.drop (l.length - behind c x l)).filter (fun y => c y v == 0) = [] := by
      rw [List.filter_eq_nil_iff]
      intro y hy
      have h1 := hb y hy
      simp only [beq_iff_eq]
      intro h2
      have h3 := ho.turn x v
      have h4 := ho.eq_trans y v x h2 (by omega)
      omega
    have e2 : l.filter (fun y => c y v == 0) = (l.take (l.length - behind c x l)).filter (fun y => c y v == 0) := by
      rw [← List.append_nil ((l.take (l.length - behind c x l)).filter (fun y => c y v == 0)), ← hnone, ← List.filter_append, e]
    rw [List.filter_append, List.filter_cons, hnone, e2]
    simp [hx]
  · rw [List.filter_append, List.filter_cons]
    simp only [beq_iff_eq, hx, if_false, List.append_nil]
    rw [← List.filter_append, e]
theorem sort_spec (ho : Order c) (l : List α) : Sorted c (sort c l) ∧ (sort c l).length = l.length ∧ ∀ v, same c v (sort c l) = same c v l := by
  have key : ∀ (l out : List α), Sorted c out → Sorted c (l.foldl (fun out x => put c x out) out) ∧ (l.foldl (fun out x => put c x out) out).length = out.length + l.length ∧ ∀ v, same c v (l.foldl (fun out x => put c x out) out) = same c v out ++ same c v l := by
    intro l
    induction l with
    | nil => intro out h; exact ⟨h, rfl, fun v => by simp [same]⟩
    | cons x l ih =>
      intro out h
      obtain ⟨h1, h2, h3⟩ := ih (put c x out) (put_sorted ho x out h)
      refine ⟨h1, ?_, fun v => ?_⟩
      · rw [List.foldl_cons, h2, put_len, List.length_cons]; omega
      · rw [List.foldl_cons, h3 v, put_same ho]
        unfold same
        rw [List.filter_cons]
        by_cases hx : c x v = 0 <;> simp [hx]
  obtain ⟨h1, h2, h3⟩ := key l [] List.Pairwise.nil
  exact ⟨h1, by simpa [sort] using h2, fun v => by simpa [same, sort] using h3 v⟩
theorem sort_mem (ho : Order c) (l : List α) (y : α) (h : y ∈ sort c l) : y ∈ l := by
  have h1 : y ∈ same c y (sort c l) := by unfold same; rw [List.mem_filter]; exact ⟨h, by simp [ho.self]⟩
  rw [(sort_spec ho l).2.2 y] at h1
  exact (List.mem_filter.1 h1).1
/-- Rows in order that hold the same, class by class, are one. -/
theorem sorted_one (ho : Order c) : ∀ (l m : List α), Sorted c l → Sorted c m → (∀ v, same c v l = same c v m) → l = m
  | [], [], _, _, _ => rfl
  | [], y :: m, _, _, h => by have := h y; simp [same, ho.self] at this
  | x :: l, [], _, _, h => by have := h x; simp [same, ho.self] at this
  | x :: l, y :: m, hl, hm, h => by
    have hx := h x
    have hy := h y
    have hxm : x ∈ same c x (y :: m) := by rw [← hx]; simp [same, ho.self]
    have hyl : y ∈ same c y (x :: l) := by rw [hy]; simp [same, ho.self]
    have hxm' : x ∈ y :: m := (List.mem_filter.1 hxm).1
    have hyl' : y ∈ x :: l := (List.mem_filter.1 hyl).1
    have h1 : c y x ≤ 0 := by
      rcases List.mem_cons.1 hxm' with e | e
      · rw [e, ho.self]; exact Int.le_refl _
      · exact (List.pairwise_cons.1 hm).1 x e
    have h2 : c x y ≤ 0 := by
      rcases List.mem_cons.1 hyl' with e | e
      · rw [e, ho.self]; exact Int.le_refl _
      · exact (List.pairwise_cons.1 hl).1 y e
    have h3 := ho.turn x y
    have h4 : c y x = 0 := by omega
    have e : x = y := by
      have h5 := hx
      simp only [same, List.filter_cons, ho.self, h4, beq_self_eq_true, if_true] at h5
      exact (List.cons.inj h5).1
    subst e
    rw [sorted_one ho l m (List.pairwise_cons.1 hl).2 (List.pairwise_cons.1 hm).2 (fun v => by
      have h5 := h v
      unfold same at h5 ⊢
      rw [List.filter_cons, List.filter_cons] at h5
      split at h5
      · exact (List.cons.inj h5).2
      · exact h5)]
theorem sort_sorted (ho : Order c) (l : List α) (h : Sorted c l) : sort c l = l := sorted_one ho _ _ (sort_spec ho l).1 h (sort_spec ho l).2.2
theorem sort_twice (ho : Order c) (l : List α) : sort c (sort c l) = sort c l := sort_sorted ho _ (sort_spec ho l).1
end
end Row
end Go.Proofs.YtmnmnbpecdofnaaDoor
