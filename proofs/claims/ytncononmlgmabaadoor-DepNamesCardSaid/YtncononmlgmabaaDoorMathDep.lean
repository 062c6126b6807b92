/-
  Plain facts on plain dependencies (chapter 6): which names may be, a dependency's words, its text, and back. Nothing of the program is named here. Conditions: as each theorem states.
-/
import Derived.Test.YtncononmlgmabaaDoorMathEvr
import Derived.Test.YtncononmlgmabaaDoorMathSpan
import Derived.Lib.SplitLaws
import Derived.Lib.Join
namespace Go.Proofs.YtncononmlgmabaaDoor
namespace Dep
open Ver Evr Span

def signD (b : UInt8) : Bool := okB b || decide (b.toNat = 45) || decide (b.toNat = 47) || decide (b.toNat = 58) || decide (b.toNat = 64)
def noNames : List (List UInt8) := [[97, 110, 100], [111, 114], [105, 102], [101, 108, 115, 101], [117, 110, 108, 101, 115, 115], [119, 105, 116, 104], [119, 105, 116, 104, 111, 117, 116]]
def nameD (s : List UInt8) : Bool := decide (1 ≤ s.length) && decide (s.length ≤ 64) && !noNames.contains s && s.all signD
def fileD (s : List UInt8) : Bool := nameD s && s.head? == some 47
structure D where
  name : List UInt8
  op : Nat
  evr : E
def zeroD : E := ⟨0, [], []⟩
def noE (e : E) : Bool := decide (e.epoch = 0) && decide (e.ver = []) && decide (e.rel = [])
def mayD (d : D) : Bool := nameD d.name && mayO d.op && (if d.op = 0 then noE d.evr else !fileD d.name && mayE d.evr true)
def textL (o : Nat) : List UInt8 := (textO o).data.toList
def wordsD (d : D) : List (List UInt8) := if d.op = 0 then [d.name] else [d.name, textL d.op, showE d.evr]
def splitD : List UInt8 → List (List UInt8)
  | [] => [[]]
  | b :: l => if b = 32 then [] :: splitD l else match splitD l with
    | [] => [[b]]
    | x :: r => (b :: x) :: r
def joinD : List (List UInt8) → List UInt8
  | [] => []
  | [x] => x
  | x :: y :: r => x ++ 32 :: joinD (y :: r)
def showD (d : D) : List UInt8 := joinD (wordsD d)
def threeD (n o v : List UInt8) : Option D := match parseE v with
  | some e => if (parseL o).2 = true ∧ mayD ⟨n, (parseL o).1, e⟩ = true then some ⟨n, (parseL o).1, e⟩ else none
  | none => none
def ofD : List (List UInt8) → Option D
  | [n] => if nameD n = true then some ⟨n, 0, zeroD⟩ else none
  | [n, o, v] => threeD n o v
  | _ => none
def parseD (s : List UInt8) : Option D := ofD (splitD s)

theorem of_one (n : List UInt8) : ofD [n] = if nameD n = true then some ⟨n, 0, zeroD⟩ else none := rfl
theorem of_three (n o v : List UInt8) : ofD [n, o, v] = threeD n o v := rfl
theorem of_other : ∀ ws : List (List UInt8), ws.length ≠ 1 → ws.length ≠ 3 → ofD ws = none
  | [], _, _ => rfl
  | [_], h, _ => absurd rfl h
  | [_, _], _, _ => rfl
  | [_, _, _], _, h => absurd rfl h
  | _ :: _ :: _ :: _ :: _, _, _ => rfl
theorem noE_iff {e : E} : noE e = true ↔ e = zeroD := by
  unfold noE zeroD
  cases e
  simp [and_assoc]
theorem may_any {n : List UInt8} {e : E} : mayD ⟨n, 0, e⟩ = (nameD n && noE e) := by
  unfold mayD
  simp [mayO]
theorem may_op {n : List UInt8} {o : Nat} {e : E} (h : o ≠ 0) : mayD ⟨n, o, e⟩ = (nameD n && mayO o && (!fileD n && mayE e true)) := by
  unfold mayD
  simp [h]
theorem op_back {o : Nat} (h : mayO o = true) : parseL (textL o) = (o, true) := by
  have : o = 0 ∨ o = 1 ∨ o = 2 ∨ o = 3 ∨ o = 4 ∨ o = 6 := by
    unfold mayO at h
    simp at h
    omega
  rcases this with rfl | rfl | rfl | rfl | rfl | rfl <;> rfl
theorem op_text {l : List UInt8} (h : (parseL l).2 = true) : textL (parseL l).1 = l ∧ mayO (parseL l).1 = true := by
  unfold parseL at h ⊢
  by_cases e1 : l = []
  · subst e1; exact ⟨rfl, rfl⟩
  by_cases e2 : l = [60]
  · subst e2; exact ⟨rfl, rfl⟩
  by_cases e3 : l = [61]
  · subst e3; exact ⟨rfl, rfl⟩
  by_cases e4 : l = [60, 61]
  · subst e4; exact ⟨rfl, rfl⟩
  by_cases e5 : l = [62]
  · subst e5; exact ⟨rfl, rfl⟩
  by_cases e6 : l = [62, 61]
  · subst e6; exact ⟨rfl, rfl⟩
  rw [if_neg e1, if_neg e2, if_neg e3, if_neg e4, if_neg e5, if_neg e6] at h
  cases h
theorem ver_some {v : List UInt8} {e : E} (h : parseE v = some e) : noE e = false := by
  obtain ⟨h1, _⟩ := show_parse h
  obtain ⟨_, _, h2, _⟩ := may_parts h1
  have h3 := (word_ok h2).2.1
  unfold noE
  cases hv : e.ver with
  | nil => rw [hv] at h3; simp at h3
  | cons b l => simp
/-- Of words: the dependency. -/
theorem of_words {d : D} (h : mayD d = true) : ofD (wordsD d) = some d := by
  obtain ⟨n, o, e⟩ := d
  by_cases h0 : o = 0
  · subst h0
    rw [may_any, Bool.and_eq_true] at h
    show ofD [n] = _
    rw [of_one, if_pos h.1, noE_iff.1 h.2]
  · have h2 := h
    rw [may_op h0] at h
    simp only [Bool.and_eq_true] at h
    obtain ⟨⟨_, h3⟩, _, h4⟩ := h
    have e1 : wordsD ⟨n, o, e⟩ = [n, textL o, showE e] := by unfold wordsD; rw [if_neg h0]
    rw [e1]
    show threeD n (textL o) (showE e) = _
    unfold threeD
    rw [parse_show h4, op_back h3]
    simp [h2]
theorem threeD_some {n o v : List UInt8} {d : D} (h : threeD n o v = some d) : ∃ e, parseE v = some e ∧ (parseL o).2 = true ∧ mayD ⟨n, (parseL o).1, e⟩ = true ∧ d = ⟨n, (parseL o).1, e⟩ := by
  unfold threeD at h
  cases hp : parseE v with
  | none => rw [hp] at h; cases h
  | some e =>
    rw [hp] at h
    simp only at h
    split at h
    · rename_i hc
      injection h with h
      exact ⟨e, rfl, hc.1, hc.2, h.symm⟩
    · cases h
theorem words_of {ws : List (List UInt8)} {d : D} (h : ofD ws = some d) : mayD d = true ∧ wordsD d = ws := by
  match ws, h with
  | [n], h =>
    rw [of_one] at h
    split at h
    · rename_i hc
      injection h with h
      subst h
      exact ⟨by rw [may_any, hc]; rfl, rfl⟩
    · cases h
  | [n, o, v], h =>
    obtain ⟨e, h1, h2, h3, rfl⟩ := threeD_some (show threeD n o v = some d from h)
    refine ⟨h3, ?_⟩
    obtain ⟨t1, t2⟩ := op_text h2
    have h0 : (parseL o).1 ≠ 0 := by
      intro h0
      rw [h0, may_any, ver_some h1] at h3
      simp at h3
    unfold wordsD
    simp only [h0, if_false]
    rw [t1, (show_parse h1).2]
theorem split_ne (s : List UInt8) : splitD s ≠ [] := by
  cases s with
  | nil => simp [splitD]
  | cons b l =>
    unfold splitD
    split
    · simp
    · split <;> simp
theorem split_space (l : List UInt8) : splitD (32 :: l) = [] :: splitD l := by rw [splitD, if_pos rfl]
theorem split_other {b : UInt8} {l x : List UInt8} {r : List (List UInt8)} (hb : b ≠ 32) (h : splitD l = x :: r) : splitD (b :: l) = (b :: x) :: r := by
  rw [splitD, if_neg hb, h]
/-- A text cut at its spaces, and put together. -/
theorem join_split : ∀ s : List UInt8, joinD (splitD s) = s
  | [] => rfl
  | b :: l => by
    have ih := join_split l
    cases h : splitD l with
    | nil => exact absurd h (split_ne l)
    | cons x r =>
      rw [h] at ih
      by_cases hb : b = 32
      · subst hb
        rw [split_space, h]
        show [] ++ 32 :: joinD (x :: r) = _
        rw [ih]; rfl
      · rw [split_other hb h]
        cases r with
        | nil => rw [← ih]; rfl
        | cons y r => rw [← ih]; rfl
theorem split_word : ∀ (x l : List UInt8), (∀ b ∈ x, b ≠ 32) → splitD (x ++ 32 :: l) = x :: splitD l
  | [], l, _ => split_space l
  | b :: x, l, h => split_other (h b (by simp)) (split_word x l (fun c hc => h c (by simp [hc])))
theorem split_last : ∀ x : List UInt8, (∀ b ∈ x, b ≠ 32) → splitD x = [x]
  | [], _ => rfl
  | b :: x, h => split_other (h b (by simp)) (split_last x (fun c hc => h c (by simp [hc])))
theorem split_join : ∀ ws : List (List UInt8), ws ≠ [] → (∀ x ∈ ws, ∀ b ∈ x, b ≠ 32) → splitD (joinD ws) = ws
  | [], h, _ => absurd rfl h
  | [x], _, h => split_last x (h x (by simp))
  | x :: y :: r, _, h => by
    show splitD (x ++ 32 :: joinD (y :: r)) = _
    rw [split_word x _ (h x (by simp)), split_join (y :: r) (by simp) (fun z hz => h z (by simp [hz]))]
theorem split_count : ∀ s : List UInt8, (splitD s).length = s.count 32 + 1
  | [] => rfl
  | b :: l => by
    have ih := split_count l
    by_cases hb : b = 32
    · subst hb
      rw [split_space, List.length_cons, ih, List.count_cons_self]
    · cases h : splitD l with
      | nil => exact absurd h (split_ne l)
      | cons x r =>
        rw [split_other hb h, List.count_cons_of_ne (by simpa using hb), ← ih, h]
        rfl
/-- A byte that may stand in a dependency's text. -/
def okT (b : UInt8) : Bool := signD b || decide (b.toNat = 60) || decide (b.toNat = 61) || decide (b.toNat = 62)
theorem sign_okT {b : UInt8} (h : signD b = true) : okT b = true := by unfold okT; simp [h]
theorem okB_okT {b : UInt8} (h : okB b = true) : okT b = true := sign_okT (by unfold signD; simp [h])
theorem dig_okT {b : UInt8} (h : isDig b = true) : okT b = true := by
  apply okB_okT
  unfold isDig at h
  unfold okB
  simp at h ⊢
  omega
theorem okT_ne {b : UInt8} (h : okT b = true) : b ≠ 32 := by
  intro e; subst e; revert h; decide
theorem name_parts {n : List UInt8} (h : nameD n = true) : 1 ≤ n.length ∧ n.length ≤ 64 ∧ (∀ b ∈ n, signD b = true) := by
  unfold nameD at h
  simp only [Bool.and_eq_true, decide_eq_true_eq] at h
  exact ⟨h.1.1.1, h.1.1.2, List.all_eq_true.1 h.2⟩
theorem show_ok {e : E} (h : mayE e true = true) : ∀ b ∈ showE e, okT b = true := by
  obtain ⟨_, _, h3, h4⟩ := may_parts h
  intro b hb
  unfold showE at hb
  rcases List.mem_append.1 hb with hb | hb
  · rcases List.mem_append.1 hb with hb | hb
    · split at hb
      · rcases List.mem_append.1 hb with hb | hb
        · exact dig_okT (List.all_eq_true.1 (digits_all _) b hb)
        · have : b = 58 := by simpa using hb
          subst this; decide
      · cases hb
    · exact okB_okT ((word_ok h3).1 b hb)
  · split at hb
    · cases hb
    · rename_i hr
      rcases List.mem_cons.1 hb with rfl | hb
      · decide
      · rcases h4 with h4 | h4
        · exact absurd h4 hr
        · exact okB_okT ((word_ok h4).1 b hb)
theorem text_ok {o : Nat} (h : mayO o = true) : ∀ b ∈ textL o, okT b = true := by
  have : o = 0 ∨ o = 1 ∨ o = 2 ∨ o = 3 ∨ o = 4 ∨ o = 6 := by
    unfold mayO at h
    simp at h
    omega
  rcases this with rfl | rfl | rfl | rfl | rfl | rfl <;> decide
theorem words_ok {d : D} (h : mayD d = true) : ∀ x ∈ wordsD d, ∀ b ∈ x, okT b = true := by
  obtain ⟨n, o, e⟩ := d
  by_cases h0 : o = 0
  · subst h0
    rw [may_any, Bool.and_eq_true] at h
    intro x hx b hb
    have : x = n := by simpa [wordsD] using hx
    subst this
    exact sign_okT ((name_parts h.1).2.2 b hb)
  · rw [may_op h0] at h
    simp only [Bool.and_eq_true] at h
    obtain ⟨⟨h1, h3⟩, _, h4⟩ := h
    intro x hx b hb
    have e1 : wordsD ⟨n, o, e⟩ = [n, textL o, showE e] := by unfold wordsD; rw [if_neg h0]
    rw [e1] at hx
    simp only [List.mem_cons, List.not_mem_nil, or_false] at hx
    rcases hx with rfl | rfl | rfl
    · exact sign_okT ((name_parts h1).2.2 b hb)
    · exact text_ok h3 b hb
    · exact show_ok h4 b hb
theorem words_ne (d : D) : wordsD d ≠ [] := by
  unfold wordsD
  split <;> simp
theorem split_show {d : D} (h : mayD d = true) : splitD (showD d) = wordsD d :=
  split_join _ (words_ne d) (fun x hx b hb => okT_ne (words_ok h x hx b hb))
/-- Parse of Show. -/
theorem parse_showD {d : D} (h : mayD d = true) : parseD (showD d) = some d := by
  unfold parseD
  rw [split_show h, of_words h]
/-- Show of Parse. -/
theorem show_parseD {s : List UInt8} {d : D} (h : parseD s = some d) : mayD d = true ∧ showD d = s := by
  obtain ⟨h1, h2⟩ := words_of h
  refine ⟨h1, ?_⟩
  unfold showD
  rw [h2, join_split]
theorem join_mem : ∀ (ws : List (List UInt8)) (b : UInt8), b ∈ joinD ws → b = 32 ∨ ∃ x ∈ ws, b ∈ x
  | [], b, h => by cases h
  | [x], b, h => .inr ⟨x, by simp, h⟩
  | x :: y :: r, b, h => by
    have h : b ∈ x ++ 32 :: joinD (y :: r) := h
    rcases List.mem_append.1 h with h | h
    · exact .inr ⟨x, by simp, h⟩
    · rcases List.mem_cons.1 h with h | h
      · exact .inl h
      · rcases join_mem (y :: r) b h with h | ⟨z, hz, h⟩
        · exact .inl h
        · exact .inr ⟨z, by simp [hz], h⟩
/-- With a space more, or a sign that none has, a text is none. -/
theorem parse_more {d : D} (h : mayD d = true) (k : Nat) (c : UInt8) (hc : c = 32 ∨ okT c = false) : parseD ((showD d).take k ++ c :: (showD d).drop k) = none := by
  cases hp : parseD ((showD d).take k ++ c :: (showD d).drop k) with
  | none => rfl
  | some x =>
    exfalso
    obtain ⟨h1, h2⟩ := show_parseD hp
    by_cases h32 : c = 32
    · subst h32
      have c1 := split_count (showD d)
      have c2 := split_count (showD x)
      rw [split_show h] at c1
      rw [split_show h1] at c2
      have e : ((showD d).take k ++ 32 :: (showD d).drop k).count 32 = (showD d).count 32 + 1 := by
        rw [List.count_append, List.count_cons_self, ← Nat.add_assoc, ← List.count_append, List.take_append_drop]
      rw [← h2] at e
      have l1 : (wordsD d).length = 1 ∨ (wordsD d).length = 3 := by unfold wordsD; split <;> simp
      have l2 : (wordsD x).length = 1 ∨ (wordsD x).length = 3 := by unfold wordsD; split <;> simp
      omega
    · have hc : okT c = false := hc.resolve_left h32
      have hm : c ∈ showD x := by rw [h2]; simp
      rcases join_mem _ _ hm with e | ⟨z, hz, hb⟩
      · exact h32 e
      · rw [words_ok h1 z hz c hb] at hc
        cases hc
end Dep
end Go.Proofs.YtncononmlgmabaaDoor
