/-
  The words of a text, as lists of bytes; joined words; where words lie. No program is named here. Plain facts on rich dependencies (chapter 8): which are whole, their words, what is read of words. Nothing of the program is named here. Conditions: as each theorem states.
-/
import Derived.Test.YtlpalepkomkngaaGreatDoorK02
namespace Go.Proofs.YtlpalepkomkngaaGreatDoor
namespace Lex

/-- 0 a space, 1 a bracket, 2 another byte that may be, 3 one that may not. -/
def kind (b : UInt8) : Nat := if b.toNat = 32 then 0 else if b.toNat = 40 ∨ b.toNat = 41 then 1 else if 33 ≤ b.toNat ∧ b.toNat ≤ 126 then 2 else 3
/-- A word and its place. -/
abbrev Wd := List UInt8 × Nat
/-- The words of what is left, with a word that stands open. -/
def cont : Option Wd → Nat → List UInt8 → List Wd
  | o, _, [] => o.toList
  | o, p, b :: l =>
    if kind b = 0 then o.toList ++ cont none (p + 1) l
    else if kind b = 1 then o.toList ++ ([b], p) :: cont none (p + 1) l
    else match o with
      | some (t, q) => cont (some (t ++ [b], q)) (p + 1) l
      | none => cont (some ([b], p)) (p + 1) l
def words (s : List UInt8) : List Wd := cont none 0 s
/-- The place of the first byte that may not be. -/
def bad : List UInt8 → Option Nat
  | [] => none
  | b :: l => if kind b = 3 then some 0 else (bad l).map (· + 1)
/-- What Words answers: the words, the place, the number of the error. -/
def answer (s : List UInt8) : List Wd × Nat × Int :=
  if 4096 < s.length then ([], 0, 40) else match bad s with
    | some i => ([], i, 4)
    | none => (words s, 0, 0)
def sep : Option (List UInt8) → List UInt8 → List UInt8
  | none, _ => []
  | some y, x => if x = [41] ∨ y = [40] then [] else [32]
theorem sep_cases (y : Option (List UInt8)) (x : List UInt8) : sep y x = [] ∨ sep y x = [32] := by
  unfold sep
  cases y with
  | none => exact .inl rfl
  | some y =>
    by_cases h : x = [41] ∨ y = [40]
    · exact .inl (if_pos h)
    · exact .inr (if_neg h)
def joinF : Option (List UInt8) → List (List UInt8) → List UInt8
  | _, [] => []
  | y, x :: l => sep y x ++ (x ++ joinF (some x) l)
def join (l : List (List UInt8)) : List UInt8 := joinF none l
def placed : Option (List UInt8) → Nat → List (List UInt8) → List Wd
  | _, _, [] => []
  | y, p, x :: l => (x, p + (sep y x).length) :: placed (some x) (p + (sep y x).length + x.length) l
/-- May this be a word? -/
def plain (x : List UInt8) : Bool := decide (x = [40]) || decide (x = [41]) || (decide (x ≠ []) && x.all fun b => decide (kind b = 2))
def bracket (x : List UInt8) : Prop := x = [40] ∨ x = [41]

theorem kind_space {b : UInt8} : kind b = 0 ↔ b = 32 := by
  unfold kind
  rw [← UInt8.toNat_inj]
  simp only [show (32 : UInt8).toNat = 32 from rfl]
  constructor
  · intro h
    by_cases h0 : b.toNat = 32
    · exact h0
    · simp only [h0, if_false] at h
      split at h <;> (try split at h) <;> simp_all
  · intro h
    simp [h]
theorem kind_bracket {b : UInt8} : kind b = 1 ↔ (b = 40 ∨ b = 41) := by
  unfold kind
  rw [← UInt8.toNat_inj, ← UInt8.toNat_inj]
  simp only [show (40 : UInt8).toNat = 40 from rfl, show (41 : UInt8).toNat = 41 from rfl]
  constructor
  · intro h
    by_cases h0 : b.toNat = 32
    · simp [h0] at h
    · simp only [h0, if_false] at h
      by_cases h1 : b.toNat = 40 ∨ b.toNat = 41
      · exact h1
      · simp only [h1, if_false] at h
        split at h <;> simp_all
  · intro h
    have : b.toNat ≠ 32 := by omega
    simp [this, h]
theorem kind_le (b : UInt8) : kind b ≤ 3 := by
  unfold kind
  repeat' split
  all_goals omega
theorem cont_nil (o : Option Wd) (p : Nat) : cont o p [] = o.toList := by cases o <;> rfl
theorem cont_space (o : Option Wd) (p : Nat) {b : UInt8} (l : List UInt8) (h : kind b = 0) : cont o p (b :: l) = o.toList ++ cont none (p + 1) l := by
  cases o with
  | none => rw [cont, if_pos h]
  | some w => rw [cont, if_pos h]
theorem cont_bracket (o : Option Wd) (p : Nat) {b : UInt8} (l : List UInt8) (h : kind b = 1) : cont o p (b :: l) = o.toList ++ ([b], p) :: cont none (p + 1) l := by
  cases o with
  | none => rw [cont, if_neg (by omega), if_pos h]
  | some w => rw [cont, if_neg (by omega), if_pos h]
theorem cont_more (t : List UInt8) (q p : Nat) {b : UInt8} (l : List UInt8) (h0 : kind b ≠ 0) (h1 : kind b ≠ 1) : cont (some (t, q)) p (b :: l) = cont (some (t ++ [b], q)) (p + 1) l := by
  rw [cont, if_neg h0, if_neg h1]
theorem cont_new (p : Nat) {b : UInt8} (l : List UInt8) (h0 : kind b ≠ 0) (h1 : kind b ≠ 1) : cont none p (b :: l) = cont (some ([b], p)) (p + 1) l := by
  rw [cont, if_neg h0, if_neg h1]

/-- Words of two texts with a space between. -/
theorem cont_append (t : List UInt8) : ∀ (s : List UInt8) (o : Option Wd) (p : Nat), cont o p (s ++ 32 :: t) = cont o p s ++ cont none (p + s.length + 1) t
  | [], o, p => by
    rw [List.nil_append, cont_space o p t (kind_space.2 rfl), cont_nil]
    rfl
  | b :: s, o, p => by
    have e : p + (b :: s).length + 1 = (p + 1) + s.length + 1 := by simp; omega
    rw [List.cons_append, e]
    by_cases h0 : kind b = 0
    · rw [cont_space _ _ _ h0, cont_space _ _ _ h0, cont_append t s none (p + 1), List.append_assoc]
    · by_cases h1 : kind b = 1
      · rw [cont_bracket _ _ _ h1, cont_bracket _ _ _ h1, cont_append t s none (p + 1)]
        simp
      · cases o with
        | none => rw [cont_new _ _ h0 h1, cont_new _ _ h0 h1, cont_append t s _ (p + 1)]
        | some w => obtain ⟨x, q⟩ := w; rw [cont_more _ _ _ _ h0 h1, cont_more _ _ _ _ h0 h1, cont_append t s _ (p + 1)]
def shift (k : Nat) (w : Wd) : Wd := (w.1, w.2 + k)
theorem cont_shift (k : Nat) : ∀ (s : List UInt8) (o : Option Wd) (p : Nat), cont (o.map (shift k)) (p + k) s = (cont o p s).map (shift k)
  | [], o, p => by cases o <;> simp [cont_nil]
  | b :: s, o, p => by
    have e : p + k + 1 = p + 1 + k := by omega
    by_cases h0 : kind b = 0
    · rw [cont_space _ _ _ h0, cont_space _ _ _ h0, e, List.map_append, ← cont_shift k s none (p + 1)]
      cases o <;> simp
    · by_cases h1 : kind b = 1
      · rw [cont_bracket _ _ _ h1, cont_bracket _ _ _ h1, e, List.map_append, List.map_cons, ← cont_shift k s none (p + 1)]
        cases o <;> simp [shift]
      · cases o with
        | none =>
          show cont none (p + k) (b :: s) = _
          rw [cont_new _ _ h0 h1, cont_new _ _ h0 h1, e, ← cont_shift k s _ (p + 1)]
          rfl
        | some w =>
          obtain ⟨x, q⟩ := w
          show cont (some (x, q + k)) (p + k) (b :: s) = _
          rw [cont_more _ _ _ _ h0 h1, cont_more _ _ _ _ h0 h1, e, ← cont_shift k s _ (p + 1)]
          rfl
/-- The words of two texts with a space between are those of the first, and those of the second, farther on. -/
theorem words_two (s t : List UInt8) : words (s ++ 32 :: t) = words s ++ (words t).map (shift (s.length + 1)) := by
  unfold words
  rw [cont_append, ← cont_shift (s.length + 1) t none 0]
  simp
theorem bad_append : ∀ (s t : List UInt8), bad (s ++ t) = match bad s with | some i => some i | none => (bad t).map (· + s.length)
  | [], t => by simp [bad]
  | b :: s, t => by
    rw [List.cons_append, bad, bad, bad_append s t]
    by_cases h : kind b = 3
    · simp [h]
    · simp only [h, if_false]
      cases bad s with
      | some i => rfl
      | none =>
        cases bad t with
        | none => rfl
        | some i => simp; omega
theorem bad_none {s : List UInt8} : bad s = none ↔ ∀ b ∈ s, kind b ≠ 3 := by
  induction s with
  | nil => simp [bad]
  | cons b s ih =>
    rw [bad]
    by_cases h : kind b = 3
    · simp [h]
    · simp only [h, if_false, Option.map_eq_none_iff, ih, List.mem_cons, forall_eq_or_imp, ne_eq, not_false_eq_true, true_and]
theorem bad_lt : ∀ {s : List UInt8} {i : Nat}, bad s = some i → i < s.length
  | b :: s, i, h => by
    rw [bad] at h
    by_cases h3 : kind b = 3
    · simp [h3] at h
      subst h
      simp
    · simp only [h3, if_false] at h
      obtain ⟨j, hj, rfl⟩ := Option.map_eq_some_iff.1 h
      have := bad_lt hj
      simp
      omega
/-- A run of other bytes. -/
theorem cont_run (t : List UInt8) (q : Nat) (l : List UInt8) : ∀ (x : List UInt8) (p : Nat), (∀ b ∈ x, kind b = 2) → cont (some (t, q)) p (x ++ l) = cont (some (t ++ x, q)) (p + x.length) l := by
  intro x
  induction x generalizing t with
  | nil => intro p _; simp
  | cons b x ih =>
    intro p h
    have hb := h b (by simp)
    rw [List.cons_append, cont_more _ _ _ _ (by omega) (by omega), ih (t ++ [b]) (p + 1) (fun c hc => h c (by simp [hc]))]
    have e : p + 1 + x.length = p + (b :: x).length := by simp; omega
    rw [e]
    simp
theorem plain_cases {x : List UInt8} (h : plain x = true) : bracket x ∨ (x ≠ [] ∧ ∀ b ∈ x, kind b = 2) := by
  unfold plain at h
  simp only [Bool.or_eq_true, Bool.and_eq_true, decide_eq_true_eq, List.all_eq_true] at h
  rcases h with (h | h) | h
  · exact .inl (.inl h)
  · exact .inl (.inr h)
  · exact .inr h
/-- A plain word ahead of what is left: no word stands open. -/
theorem cont_plain {x : List UInt8} (h : plain x = true) (p : Nat) (l : List UInt8) : (bracket x ∧ cont none p (x ++ l) = (x, p) :: cont none (p + x.length) l) ∨ (¬ bracket x ∧ cont none p (x ++ l) = cont (some (x, p)) (p + x.length) l) := by
  rcases plain_cases h with hb | ⟨h0, h2⟩
  · refine .inl ⟨hb, ?_⟩
    rcases hb with rfl | rfl
    all_goals exact cont_bracket none p l (kind_bracket.2 (by simp))
  · refine .inr ⟨?_, ?_⟩
    · rintro (rfl | rfl)
      · have := h2 40 (by simp); rw [kind_bracket.2 (.inl rfl)] at this; omega
      · have := h2 41 (by simp); rw [kind_bracket.2 (.inr rfl)] at this; omega
    · cases x with
      | nil => exact absurd rfl h0
      | cons b x =>
        have hb := h2 b (by simp)
        rw [List.cons_append, cont_new _ _ (by omega) (by omega), cont_run [b] p l x (p + 1) (fun c hc => h2 c (by simp [hc]))]
        have e : p + 1 + x.length = p + (b :: x).length := by simp; omega
        rw [e]
        rfl
/-- Words of joined words are the words, each at its place. -/
theorem cont_join : ∀ (l : List (List UInt8)), (∀ x ∈ l, plain x = true) → ∀ (y : Option (List UInt8)) (p : Nat),
    ((∀ z, y = some z → bracket z) → cont none p (joinF y l) = placed y p l) ∧ (∀ z q, y = some z → ¬ bracket z → cont (some (z, q)) p (joinF y l) = (z, q) :: placed y p l)
  | [], _, y, p => by
    refine ⟨fun _ => rfl, fun z q _ _ => ?_⟩
    rw [joinF, cont_nil]
    rfl
  | x :: l, hl, y, p => by
    have hx := hl x (by simp)
    have ih := cont_join l (fun z hz => hl z (by simp [hz])) (some x)
    -- behind a plain word
    have step : ∀ p, cont none p (x ++ joinF (some x) l) = (x, p) :: placed (some x) (p + x.length) l := by
      intro p
      rcases cont_plain hx p (joinF (some x) l) with ⟨hb, e⟩ | ⟨hb, e⟩
      · rw [e, (ih (p + x.length)).1 (fun z hz => by injection hz with hz; rw [← hz]; exact hb)]
      · rw [e, (ih (p + x.length)).2 x p rfl hb]
    refine ⟨fun hy => ?_, fun z q hz hnz => ?_⟩
    · rw [joinF, placed]
      rcases sep_cases y x with e | e
      · rw [e, List.nil_append, step p]
        rfl
      · rw [e, List.singleton_append, cont_space none p _ (kind_space.2 rfl), step (p + 1)]
        rfl
    · subst hz
      rw [joinF, placed]
      have hz2 : z ≠ [40] := fun e => hnz (.inl e)
      by_cases hx1 : x = [41]
      · have e : sep (some z) x = [] := by unfold sep; simp [hx1]
        rw [e, List.nil_append]
        subst hx1
        rw [List.singleton_append, cont_bracket _ p _ (kind_bracket.2 (.inr rfl))]
        have := step p
        rw [List.singleton_append, cont_bracket _ p _ (kind_bracket.2 (.inr rfl))] at this
        simp only [Option.toList_none, List.nil_append] at this
        rw [this]
        rfl
      · have e : sep (some z) x = [32] := by unfold sep; simp [hx1, hz2]
        rw [e, List.singleton_append, cont_space _ p _ (kind_space.2 rfl), step (p + 1)]
        rfl
theorem words_join {l : List (List UInt8)} (hl : ∀ x ∈ l, plain x = true) : words (join l) = placed none 0 l := (cont_join l hl none 0).1 (fun z h => by cases h)
theorem placed_texts : ∀ (l : List (List UInt8)) (y : Option (List UInt8)) (p : Nat), (placed y p l).map Prod.fst = l
  | [], _, _ => rfl
  | x :: l, y, p => by rw [placed, List.map_cons, placed_texts l]

/-- Where words lie: each at its place, spaces alone between them, each a plain word; without a space between, one of the two is a bracket. -/
def bracketB (x : List UInt8) : Bool := decide (x = [40]) || decide (x = [41])
theorem bracketB_iff {x : List UInt8} : bracketB x = true ↔ bracket x := by unfold bracketB bracket; simp
def Lies : Nat → Bool → List Wd → List UInt8 → Prop
  | _, _, [], rest => ∀ b ∈ rest, b = 32
  | e, pv, (t, a) :: ws, rest => ∃ k rest', rest = List.replicate k 32 ++ (t ++ rest') ∧ a = e + k ∧ plain t = true ∧ (k = 0 → pv = true ∨ bracketB t = true) ∧ Lies (a + t.length) (bracketB t) ws rest'
def k2 (b : UInt8) : Bool := decide (kind b = 2)
def heads2 : List UInt8 → Bool
  | [] => false
  | b :: _ => k2 b
theorem heads2_drop : ∀ l : List UInt8, heads2 (l.dropWhile k2) = false
  | [] => rfl
  | b :: l => by
    by_cases h : k2 b = true
    · rw [List.dropWhile_cons_of_pos h]
      exact heads2_drop l
    · rw [List.dropWhile_cons_of_neg h]
      simpa [heads2] using h
theorem all_take : ∀ l : List UInt8, ∀ b ∈ l.takeWhile k2, kind b = 2 := by
  intro l b hb
  have := List.all_takeWhile (p := k2) (l := l)
  rw [List.all_eq_true] at this
  simpa [k2] using this b hb
theorem cont_close (t : List UInt8) (q p : Nat) : ∀ (r : List UInt8), heads2 r = false → (∀ b ∈ r, kind b ≠ 3) → cont (some (t, q)) p r = (t, q) :: cont none p r
  | [], _, _ => rfl
  | b :: r, h, h3 => by
    have hb := h3 b (by simp)
    have hle := kind_le b
    have h2 : kind b ≠ 2 := by simpa [heads2, k2] using h
    rcases (show kind b = 0 ∨ kind b = 1 by omega) with h0 | h1
    · rw [cont_space _ _ _ h0, cont_space _ _ _ h0]; rfl
    · rw [cont_bracket _ _ _ h1, cont_bracket _ _ _ h1]; rfl
theorem cont_word {b : UInt8} (hb : kind b = 2) (p : Nat) (l : List UInt8) (h3 : ∀ c ∈ l, kind c ≠ 3) : cont none p (b :: l) = (b :: l.takeWhile k2, p) :: cont none (p + 1 + (l.takeWhile k2).length) (l.dropWhile k2) := by
  rw [cont_new _ _ (by omega) (by omega)]
  conv => lhs; rw [← List.takeWhile_append_dropWhile (p := k2) (l := l)]
  rw [cont_run [b] p _ _ (p + 1) (all_take l), cont_close _ _ _ _ (heads2_drop l) (fun c hc => h3 c (List.dropWhile_sublist k2 |>.subset hc))]
  rfl
theorem rep_snoc (k : Nat) (l : List UInt8) : List.replicate k 32 ++ 32 :: l = List.replicate (k + 1) 32 ++ l := by
  rw [List.replicate_succ', List.append_assoc]
  rfl
theorem lies_cont : ∀ (n : Nat) (s : List UInt8), s.length ≤ n → (∀ b ∈ s, kind b ≠ 3) → ∀ (e : Nat) (pv : Bool) (k : Nat), (k = 0 → pv = true ∨ heads2 s = false) → Lies e pv (cont none (e + k) s) (List.replicate k 32 ++ s)
  | _, [], _, _, e, pv, k, _ => by
    intro b hb
    rw [List.append_nil] at hb
    exact (List.mem_replicate.1 hb).2
  | 0, b :: s, hn, _, _, _, _, _ => by simp at hn
  | n + 1, b :: s, hn, h3, e, pv, k, hc => by
    have hn' : s.length ≤ n := by simpa using hn
    have h3' : ∀ c ∈ s, kind c ≠ 3 := fun c hc => h3 c (by simp [hc])
    have hb := h3 b (by simp)
    have hle := kind_le b
    by_cases h0 : kind b = 0
    · rw [cont_space _ _ _ h0, kind_space.1 h0, rep_snoc]
      exact lies_cont n s hn' h3' e pv (k + 1) (fun h => by omega)
    · by_cases h1 : kind b = 1
      · rw [cont_bracket _ _ _ h1]
        have hbr : bracketB [b] = true := bracketB_iff.2 (by rcases kind_bracket.1 h1 with rfl | rfl; exact .inl rfl; exact .inr rfl)
        refine ⟨k, s, rfl, rfl, ?_, fun _ => .inr hbr, ?_⟩
        · rcases kind_bracket.1 h1 with rfl | rfl <;> simp [plain]
        · rw [hbr]
          exact lies_cont n s hn' h3' (e + k + 1) true 0 (fun _ => .inl rfl)
      · have h2 : kind b = 2 := by omega
        rw [cont_word h2 _ _ h3']
        have hall : ∀ c ∈ b :: s.takeWhile k2, kind c = 2 := fun c hc => by
          rcases List.mem_cons.1 hc with rfl | hc
          · exact h2
          · exact all_take s c hc
        have hnb : bracketB (b :: s.takeWhile k2) = false := by
          rw [← Bool.not_eq_true, bracketB_iff]
          rintro (h | h)
          · injection h with h _; rw [kind_bracket.2 (.inl h)] at h2; omega
          · injection h with h _; rw [kind_bracket.2 (.inr h)] at h2; omega
        refine ⟨k, s.dropWhile k2, ?_, rfl, ?_, fun hk => ?_, ?_⟩
        · rw [List.cons_append, List.takeWhile_append_dropWhile]
        · unfold plain
          simp only [Bool.or_eq_true, Bool.and_eq_true, decide_eq_true_eq, List.all_eq_true]
          exact .inr ⟨by simp, hall⟩
        · rcases hc hk with h | h
          · exact .inl h
          · exact absurd h (by simp [heads2, k2, h2])
        · rw [hnb]
          have e1 : e + k + (b :: s.takeWhile k2).length = e + k + 1 + (s.takeWhile k2).length := by simp; omega
          rw [e1]
          have hd : (s.dropWhile k2).length ≤ n := Nat.le_trans (List.dropWhile_sublist k2).length_le hn'
          exact lies_cont n _ hd (fun c hc => h3' c ((List.dropWhile_sublist k2).subset hc)) (e + k + 1 + (s.takeWhile k2).length) false 0 (fun _ => .inr (heads2_drop s))
theorem lies_words {s : List UInt8} (h : bad s = none) : Lies 0 true (words s) s := lies_cont s.length s (Nat.le_refl _) (bad_none.1 h) 0 true 0 (fun _ => .inl rfl)
theorem plain_ne {x : List UInt8} (h : plain x = true) : 0 < x.length := by
  rcases plain_cases h with h | ⟨h, _⟩
  · rcases h with rfl | rfl <;> simp
  · exact List.length_pos_iff.2 h
theorem plain_valid {x : List UInt8} (h : plain x = true) : ∀ b ∈ x, kind b ≠ 3 := by
  intro b hb
  rcases plain_cases h with h | ⟨_, h⟩
  · rcases h with rfl | rfl <;> simp at hb <;> subst hb <;> decide
  · have := h b hb; omega
/-- What words weigh. -/
def total : List (List UInt8) → Nat
  | [] => 0
  | x :: l => x.length + total l
theorem lies_facts : ∀ (ws : List Wd) (e : Nat) (pv : Bool) (r : List UInt8), Lies e pv ws r → (∀ x ∈ ws.map Prod.fst, plain x = true) ∧ total (ws.map Prod.fst) ≤ r.length ∧ ws.length ≤ total (ws.map Prod.fst)
  | [], _, _, _, _ => ⟨by simp, by simp [total], by simp⟩
  | (t, a) :: ws, e, pv, r, h => by
    obtain ⟨k, r', hr, _, hp, _, hl⟩ := h
    obtain ⟨i1, i2, i3⟩ := lies_facts ws _ _ r' hl
    have hpos := plain_ne hp
    refine ⟨?_, ?_, ?_⟩
    · intro x hx
      rcases List.mem_cons.1 hx with rfl | hx
      · exact hp
      · exact i1 x hx
    · subst hr
      simp only [List.map_cons, total, List.length_append, List.length_replicate]
      omega
    · simp only [List.map_cons, total, List.length_cons]
      omega
theorem joinF_len : ∀ (l : List (List UInt8)) (y : Option (List UInt8)), (joinF y l).length ≤ total l + l.length
  | [], _ => by simp [joinF, total]
  | x :: l, y => by
    have := joinF_len l (some x)
    have hs : (sep y x).length ≤ 1 := by rcases sep_cases y x with e | e <;> rw [e] <;> simp
    simp only [joinF, total, List.length_append, List.length_cons]
    omega
theorem joinF_valid : ∀ (l : List (List UInt8)) (y : Option (List UInt8)), (∀ x ∈ l, plain x = true) → ∀ b ∈ joinF y l, kind b ≠ 3
  | [], _, _ => by simp [joinF]
  | x :: l, y, h => by
    intro b hb
    rw [joinF, List.mem_append, List.mem_append] at hb
    rcases hb with hb | hb | hb
    · rcases sep_cases y x with e | e
      · rw [e] at hb; simp at hb
      · rw [e] at hb; simp at hb; subst hb; decide
    · exact plain_valid (h x (by simp)) b hb
    · exact joinF_valid l (some x) (fun z hz => h z (by simp [hz])) b hb
theorem join_bad {l : List (List UInt8)} (h : ∀ x ∈ l, plain x = true) : bad (join l) = none := bad_none.2 (joinF_valid l none h)
/-- Words with so many spaces behind each. -/
def wideF (g : Nat) : List (List UInt8) → List UInt8
  | [] => []
  | x :: l => x ++ (List.replicate g 32 ++ wideF g l)
theorem cont_spaces : ∀ (k p : Nat) (l : List UInt8), cont none p (List.replicate k 32 ++ l) = cont none (p + k) l
  | 0, _, _ => rfl
  | k + 1, p, l => by
    rw [List.replicate_succ, List.cons_append, cont_space none p _ (kind_space.2 rfl), cont_spaces k (p + 1) l]
    have e : p + 1 + k = p + (k + 1) := by omega
    rw [e]
    rfl
theorem cont_wide (g : Nat) (hg : 0 < g) : ∀ (l : List (List UInt8)) (p : Nat), (∀ x ∈ l, plain x = true) → (cont none p (wideF g l)).map Prod.fst = l
  | [], _, _ => rfl
  | x :: l, p, h => by
    have ih := fun p => cont_wide g hg l p (fun z hz => h z (by simp [hz]))
    rw [wideF]
    rcases cont_plain (h x (by simp)) p (List.replicate g 32 ++ wideF g l) with ⟨_, e⟩ | ⟨_, e⟩
    · rw [e, List.map_cons, cont_spaces, ih]
    · rw [e]
      obtain ⟨g', rfl⟩ : ∃ g', g = g' + 1 := ⟨g - 1, by omega⟩
      rw [List.replicate_succ, List.cons_append, cont_space _ _ _ (kind_space.2 rfl), cont_spaces]
      simp only [Option.toList_some, List.singleton_append, List.map_cons]
      rw [ih]
theorem wideF_len (g : Nat) : ∀ l : List (List UInt8), (wideF g l).length = total l + g * l.length
  | [] => by simp [wideF, total]
  | x :: l => by
    simp only [wideF, total, List.length_append, List.length_replicate, List.length_cons, wideF_len g l, Nat.mul_succ]
    omega
theorem wideF_valid (g : Nat) : ∀ (l : List (List UInt8)), (∀ x ∈ l, plain x = true) → ∀ b ∈ wideF g l, kind b ≠ 3
  | [], _ => by simp [wideF]
  | x :: l, h => by
    intro b hb
    rw [wideF, List.mem_append, List.mem_append] at hb
    rcases hb with hb | hb | hb
    · exact plain_valid (h x (by simp)) b hb
    · rw [(List.mem_replicate.1 hb).2]; decide
    · exact wideF_valid g l (fun z hz => h z (by simp [hz])) b hb
/-- What Words answers to a text with spaces, and to joined words. -/
theorem answer_ok {s : List UInt8} (h1 : s.length ≤ 4096) (h2 : bad s = none) : answer s = (words s, 0, 0) := by
  unfold answer
  rw [if_neg (by omega), h2]
theorem answer_cases (s : List UInt8) : (4096 < s.length ∧ answer s = ([], 0, 40)) ∨ (s.length ≤ 4096 ∧ ∃ i, bad s = some i ∧ i < s.length ∧ answer s = ([], i, 4)) ∨ (s.length ≤ 4096 ∧ bad s = none ∧ answer s = (words s, 0, 0)) := by
  by_cases h : 4096 < s.length
  · exact .inl ⟨h, by unfold answer; rw [if_pos h]⟩
  · cases hb : bad s with
    | some i => exact .inr (.inl ⟨by omega, i, rfl, bad_lt hb, by unfold answer; rw [if_neg h, hb]⟩)
    | none => exact .inr (.inr ⟨by omega, rfl, answer_ok (by omega) hb⟩)
end Lex
end Go.Proofs.YtlpalepkomkngaaGreatDoor

namespace Go.Proofs.YtlpalepkomkngaaGreatDoor
namespace Rich
open Ver Evr Span Dep Lex

inductive R where
  | mk : Nat → D → List R → R
def R.kind : R → Nat | .mk k _ _ => k
def R.dep : R → D | .mk _ d _ => d
def R.args : R → List R | .mk _ _ l => l
def zD : D := ⟨[], 0, zeroD⟩
def noD (d : D) : Bool := decide (d.name = []) && decide (d.op = 0) && noE d.evr
theorem noD_iff {d : D} : noD d = true ↔ d = zD := by
  unfold noD zD
  cases d
  simp [noE_iff, and_assoc]
/-- How many parts each Kind has. -/
def okN (k n : Nat) : Bool := if k = 2 ∨ k = 3 ∨ k = 6 then decide (2 ≤ n) else if k = 4 ∨ k = 5 then decide (n = 2 ∨ n = 3) else if k = 7 then decide (n = 2) else false
mutual
def part : R → Bool
  | .mk k d l => if k = 1 then mayD d && l.isEmpty else okN k l.length && allP l && noD d
def allP : List R → Bool
  | [] => true
  | x :: l => part x && allP l
end
mutual
def count : R → Nat
  | .mk _ _ l => 1 + counts l
def counts : List R → Nat
  | [] => 0
  | x :: l => count x + counts l
end
mutual
def deep : R → Nat
  | .mk k _ l => if k = 1 then 0 else deeps l + 1
def deeps : List R → Nat
  | [] => 0
  | x :: l => max (deep x) (deeps l)
end
def whole (x : R) : Bool := part x && decide (count x ≤ 24) && decide (deep x ≤ 8)
def wordK (k : Nat) : List UInt8 := match k with
  | 2 => [97, 110, 100]
  | 3 => [111, 114]
  | 4 => [105, 102]
  | 5 => [117, 110, 108, 101, 115, 115]
  | 6 => [119, 105, 116, 104]
  | 7 => [119, 105, 116, 104, 111, 117, 116]
  | _ => []
def wElse : List UInt8 := [101, 108, 115, 101]
/-- The word ahead of part i. -/
def sepW (k i : Nat) : List UInt8 := if i = 2 ∧ (k = 4 ∨ k = 5) then wElse else wordK k
def sepL (k i : Nat) : List (List UInt8) := if i = 0 then [] else [sepW k i]
mutual
def wordsR : R → List (List UInt8)
  | .mk k d l => if k = 1 then wordsD d else [40] :: (wordsL k 0 l ++ [[41]])
def wordsL (k : Nat) : Nat → List R → List (List UInt8)
  | _, [] => []
  | i, x :: l => sepL k i ++ (wordsR x ++ wordsL k (i + 1) l)
end
def showN (x : R) : List UInt8 × Int := if whole x = true then (if 4096 < (join (wordsR x)).length then ([], 40) else (join (wordsR x), 0)) else ([], 4)

/-! What is read. -/
def kindW (w : List UInt8) : Nat := if w = wordK 2 then 2 else if w = wordK 3 then 3 else if w = wordK 4 then 4 else if w = wordK 5 then 5 else if w = wordK 6 then 6 else if w = wordK 7 then 7 else 0
def placeW (e : Nat) : List Wd → Nat
  | [] => e
  | (_, a) :: _ => a
def textW : List Wd → List UInt8
  | [] => []
  | (t, _) :: _ => t
abbrev Res := Except (Nat × Int) (R × Nat × List Wd)
def finF (ws : List (List UInt8)) (p n : Nat) (rest : List Wd) : Res := match ofD ws with
  | some d => .ok (.mk 1 d [], n, rest)
  | none => .error (p, 4)
/-- Is this word the text of an Op that is not Any? -/
def isOp (w : List UInt8) : Bool := (parseL w).2 && decide ((parseL w).1 ≠ 0)
def atomF (w : List UInt8) (p n : Nat) (rest : List Wd) : Res :=
  if isOp (textW rest) = true then match rest.tail with
    | [] => finF [w, textW rest] p n []
    | (v, _) :: r2 => finF [w, textW rest, v] p n r2
  else finF [w] p n rest
def moreW (k len : Nat) (w : List UInt8) : Bool := (decide (w = wordK k) && decide (k = 2 ∨ k = 3 ∨ k = 6)) || (decide (w = wElse) && decide (len = 2) && decide (k = 4 ∨ k = 5))
mutual
def readF (e : Nat) : Nat → Nat → Nat → List Wd → Res
  | 0, _, _, _ => .error (e, 4)
  | _ + 1, _, _, [] => .error (e, 4)
  | f + 1, o, n, (w, p) :: rest =>
    if w = [] ∨ w = [41] then .error (p, 4)
    else if w = [40] ∧ o = 8 then .error (p, 21)
    else if 24 < n + 1 then .error (p, 40)
    else if w ≠ [40] then atomF w p (n + 1) rest
    else match readF e f (o + 1) (n + 1) rest with
      | .error x => .error x
      | .ok (a, n2, ws2) => if kindW (textW ws2) = 0 then .error (placeW e ws2, 4) else moreF e f (o + 1) (kindW (textW ws2)) [a] n2 ws2
def moreF (e : Nat) : Nat → Nat → Nat → List R → Nat → List Wd → Res
  | 0, _, _, _, _, _ => .error (e, 4)
  | f + 1, o, k, l, n, ws => match readF e f o n ws.tail with
    | .error x => .error x
    | .ok (b, n2, ws2) =>
      if textW ws2 = [41] then .ok (.mk k zD (l ++ [b]), n2, ws2.tail)
      else if moreW k (l.length + 1) (textW ws2) = true then moreF e f o k (l ++ [b]) n2 ws2
      else .error (placeW e ws2, 4)
end
def parseF (s : List UInt8) : Except (Nat × Int) R :=
  if (answer s).2.2 ≠ 0 then .error ((answer s).2.1, (answer s).2.2)
  else match readF s.length ((answer s).1.length + 1) 0 0 (answer s).1 with
    | .error x => .error x
    | .ok (x, _, []) => .ok x
    | .ok (_, _, (_, a) :: _) => .error (a, 4)

/-! Words. -/
theorem okT_two {b : UInt8} (h : okT b = true) : kind b = 2 := by
  have key : ∀ n : Nat, n < 256 → okT (UInt8.ofNat n) = true → kind (UInt8.ofNat n) = 2 := by decide +kernel
  have := key b.toNat (UInt8.toNat_lt b) (by rw [UInt8.ofNat_toNat]; exact h)
  rwa [UInt8.ofNat_toNat] at this
theorem plain_of {x : List UInt8} (h0 : x ≠ []) (h : ∀ b ∈ x, okT b = true) : plain x = true := by
  unfold plain
  simp only [Bool.or_eq_true, Bool.and_eq_true, decide_eq_true_eq, List.all_eq_true]
  exact .inr ⟨h0, fun b hb => okT_two (h b hb)⟩
theorem name_word {n : List UInt8} (h : nameD n = true) : n ≠ [] ∧ n ≠ [40] ∧ n ≠ [41] ∧ plain n = true := by
  obtain ⟨h1, _, h3⟩ := name_parts h
  have h0 : n ≠ [] := fun e => by rw [e] at h1; simp at h1
  refine ⟨h0, ?_, ?_, plain_of h0 (fun b hb => sign_okT (h3 b hb))⟩
  · rintro rfl; have := h3 40 (by simp); revert this; decide
  · rintro rfl; have := h3 41 (by simp); revert this; decide
theorem wordsD_any {d : D} (h : d.op = 0) : wordsD d = [d.name] := by unfold wordsD; rw [if_pos h]
theorem wordsD_op {d : D} (h : d.op ≠ 0) : wordsD d = [d.name, textL d.op, showE d.evr] := by unfold wordsD; rw [if_neg h]
theorem may_name {d : D} (h : mayD d = true) : nameD d.name = true := by
  obtain ⟨n, o, e⟩ := d
  by_cases h0 : o = 0
  · subst h0; rw [may_any, Bool.and_eq_true] at h; exact h.1
  · rw [may_op h0] at h; simp only [Bool.and_eq_true] at h; exact h.1.1
theorem may_ops {d : D} (h : mayD d = true) (h0 : d.op ≠ 0) : mayO d.op = true ∧ mayE d.evr true = true := by
  obtain ⟨n, o, e⟩ := d
  rw [may_op h0] at h
  simp only [Bool.and_eq_true] at h
  exact ⟨h.1.2, h.2.2⟩
theorem textL_ne {o : Nat} (h : mayO o = true) (h0 : o ≠ 0) : textL o ≠ [] := by
  intro e
  have := op_back h
  rw [e] at this
  simp [parseL] at this
  omega
theorem showE_ne {e : E} (h : mayE e true = true) : showE e ≠ [] := by
  obtain ⟨_, _, h3, _⟩ := may_parts h
  have := (word_ok h3).2.1
  intro h0
  unfold showE at h0
  simp only [List.append_eq_nil_iff] at h0
  rw [h0.1.2] at this
  simp at this
theorem wordsD_plain {d : D} (h : mayD d = true) : ∀ x ∈ wordsD d, plain x = true := by
  intro x hx
  refine plain_of ?_ (words_ok h x hx)
  by_cases h0 : d.op = 0
  · rw [wordsD_any h0] at hx
    rw [List.mem_singleton.1 hx]
    exact (name_word (may_name h)).1
  · rw [wordsD_op h0] at hx
    obtain ⟨m1, m2⟩ := may_ops h h0
    simp only [List.mem_cons, List.not_mem_nil, or_false] at hx
    rcases hx with rfl | rfl | rfl
    · exact (name_word (may_name h)).1
    · exact textL_ne m1 h0
    · exact showE_ne m2
theorem isOp_text {o : Nat} (h : mayO o = true) (h0 : o ≠ 0) : isOp (textL o) = true := by
  unfold isOp
  rw [op_back h]
  simp [h0]
/-- Behind a part: no word that is an Op. -/
def noOp (ws : List Wd) : Prop := isOp (textW ws) = false
theorem noOp_nil : noOp [] := by show isOp [] = false; decide
theorem noOp_close (a : Nat) (l : List Wd) : noOp (([41], a) :: l) := by show isOp [41] = false; decide
theorem noOp_sep {k i : Nat} (hk : 2 ≤ k ∧ k ≤ 7) (a : Nat) (l : List Wd) : noOp ((sepW k i, a) :: l) := by
  show isOp (sepW k i) = false
  unfold sepW
  split
  · decide
  · obtain ⟨h1, h2⟩ := hk
    have : k = 2 ∨ k = 3 ∨ k = 4 ∨ k = 5 ∨ k = 6 ∨ k = 7 := by omega
    rcases this with rfl | rfl | rfl | rfl | rfl | rfl <;> decide
theorem okN_kind {k n : Nat} (h : okN k n = true) : 2 ≤ k ∧ k ≤ 7 ∧ 2 ≤ n := by
  unfold okN at h
  split at h
  · simp at h; omega
  · split at h
    · simp at h; omega
    · split at h
      · simp at h; omega
      · cases h
theorem kindW_word {k : Nat} (h : 2 ≤ k ∧ k ≤ 7) : kindW (wordK k) = k := by
  have : k = 2 ∨ k = 3 ∨ k = 4 ∨ k = 5 ∨ k = 6 ∨ k = 7 := by omega
  rcases this with rfl | rfl | rfl | rfl | rfl | rfl <;> decide
theorem kindW_some {w : List UInt8} (h : kindW w ≠ 0) : 2 ≤ kindW w ∧ kindW w ≤ 7 ∧ wordK (kindW w) = w := by
  unfold kindW at h ⊢
  by_cases h2 : w = wordK 2
  · rw [if_pos h2]; exact ⟨by omega, by omega, h2.symm⟩
  rw [if_neg h2] at h ⊢
  by_cases h3 : w = wordK 3
  · rw [if_pos h3]; exact ⟨by omega, by omega, h3.symm⟩
  rw [if_neg h3] at h ⊢
  by_cases h4 : w = wordK 4
  · rw [if_pos h4]; exact ⟨by omega, by omega, h4.symm⟩
  rw [if_neg h4] at h ⊢
  by_cases h5 : w = wordK 5
  · rw [if_pos h5]; exact ⟨by omega, by omega, h5.symm⟩
  rw [if_neg h5] at h ⊢
  by_cases h6 : w = wordK 6
  · rw [if_pos h6]; exact ⟨by omega, by omega, h6.symm⟩
  rw [if_neg h6] at h ⊢
  by_cases h7 : w = wordK 7
  · rw [if_pos h7]; exact ⟨by omega, by omega, h7.symm⟩
  rw [if_neg h7] at h
  exact absurd rfl h
end Rich
end Go.Proofs.YtlpalepkomkngaaGreatDoor
