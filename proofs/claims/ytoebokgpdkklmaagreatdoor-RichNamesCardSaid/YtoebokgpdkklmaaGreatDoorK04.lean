/-
  Rich dependencies (chapter 8): what is read is a part, of just these words; places; texts and back. Nothing of the program is named here. Rich dependencies (chapter 8): texts and back, parts, unlike ones. Nothing of the program is named here. Plain facts on memory: a block that is known whole; what a call leaves alone; a list of bytes as cells. Nothing of the program is named here. A text's bytes, a cut of a text, a cell of a row. Nothing of the program is named here but its types. Slices of strings. Nothing of the program is named here but its types. Conditions: as each theorem states.
-/
import Derived.Test.YtoebokgpdkklmaaGreatDoorK03
import Derived.WalkKit
import Derived.Lib.AppendStr
import Derived.Laws.NewBlocks
import Derived.Deep.Draws
import Derived.Maps.AppendAt
import Derived.Lib.BufferRead
import Derived.Handy
import Derived.Lib.Hide
namespace Go.Proofs.YtoebokgpdkklmaaGreatDoor
namespace Rich
open Ver Evr Span Dep Lex

/-- How many Args a part of Kind k may have so far, if one more comes. -/
def okA (k m : Nat) : Prop := 1 ≤ m ∧ ((k = 2 ∨ k = 3 ∨ k = 6) ∨ ((k = 4 ∨ k = 5) ∧ m ≤ 2) ∨ (k = 7 ∧ m = 1))
theorem okA_ok {k m : Nat} (h : okA k m) : okN k (m + 1) = true := by
  obtain ⟨h1, h⟩ := h
  have : k = 2 ∨ k = 3 ∨ k = 4 ∨ k = 5 ∨ k = 6 ∨ k = 7 := by omega
  unfold okN
  rcases this with rfl | rfl | rfl | rfl | rfl | rfl <;> simp at h ⊢ <;> omega
theorem okA_first {k : Nat} (h : 2 ≤ k ∧ k ≤ 7) : okA k 1 := ⟨by omega, by omega⟩
theorem sepW_one (k : Nat) : sepW k 1 = wordK k := by unfold sepW; rw [if_neg (by omega)]
theorem moreW_next {k m : Nat} {w : List UInt8} (hA : okA k m) (h : moreW k (m + 1) w = true) : okA k (m + 1) ∧ w = sepW k (m + 1) := by
  obtain ⟨h1, hA⟩ := hA
  unfold moreW at h
  simp only [Bool.or_eq_true, Bool.and_eq_true, decide_eq_true_eq] at h
  rcases h with ⟨h, hk⟩ | ⟨⟨h, hm⟩, hk⟩
  · refine ⟨⟨by omega, .inl hk⟩, ?_⟩
    unfold sepW
    rw [if_neg (by omega)]
    exact h
  · refine ⟨⟨by omega, by omega⟩, ?_⟩
    unfold sepW
    rw [if_pos ⟨by omega, hk⟩]
    exact h
theorem text_ne {ws : List Wd} (h : textW ws ≠ []) : ∃ t a l, ws = (t, a) :: l ∧ textW ws = t := by
  cases ws with
  | nil => exact absurd rfl h
  | cons q l => exact ⟨q.1, q.2, l, rfl, rfl⟩
theorem fin_ok {ws : List (List UInt8)} {p n : Nat} {rest : List Wd} {x : R} {n2 : Nat} {r2 : List Wd} (h : finF ws p n rest = .ok (x, n2, r2)) : ∃ d, mayD d = true ∧ wordsD d = ws ∧ x = .mk 1 d [] ∧ n2 = n ∧ r2 = rest := by
  unfold finF at h
  cases ho : ofD ws with
  | none => rw [ho] at h; cases h
  | some d =>
    rw [ho] at h
    injection h with h
    injection h with h1 h2
    injection h2 with h2 h3
    obtain ⟨g1, g2⟩ := words_of ho
    exact ⟨d, g1, g2, h1.symm, h2.symm, h3.symm⟩
theorem atom_ok {w : List UInt8} {p n : Nat} {rest : List Wd} {x : R} {n2 : Nat} {r2 : List Wd} (h : atomF w p n rest = .ok (x, n2, r2)) :
    ∃ d ps, mayD d = true ∧ x = .mk 1 d [] ∧ n2 = n ∧ rest = ps ++ r2 ∧ w :: ps.map Prod.fst = wordsD d := by
  unfold atomF at h
  split at h
  · rename_i hop
    have ht : textW rest ≠ [] := fun e => by rw [e] at hop; revert hop; decide
    obtain ⟨t, a, l, rfl, e⟩ := text_ne ht
    rw [List.tail_cons] at h
    cases l with
    | nil =>
      obtain ⟨d, h1, h2, h3, h4, h5⟩ := fin_ok h
      exfalso
      have hl := congrArg List.length h2
      by_cases h0 : d.op = 0
      · rw [wordsD_any h0] at hl; simp at hl
      · rw [wordsD_op h0] at hl; simp at hl
    | cons q l =>
      obtain ⟨d, h1, h2, h3, h4, h5⟩ := fin_ok h
      exact ⟨d, [(t, a), q], h1, h3, h4, by rw [h5]; rfl, by rw [h2]; rfl⟩
  · obtain ⟨d, h1, h2, h3, h4, h5⟩ := fin_ok h
    exact ⟨d, [], h1, h3, h4, by rw [h5]; rfl, by rw [h2]; rfl⟩
def ReadOk (f : Nat) : Prop := ∀ (e o n : Nat) (ws : List Wd) (x : R) (n2 : Nat) (rest : List Wd), readF e f o n ws = .ok (x, n2, rest) → o ≤ 8 →
  ∃ ps, ws = ps ++ rest ∧ ps.map Prod.fst = wordsR x ∧ part x = true ∧ n2 = n + count x ∧ n2 ≤ 24 ∧ deep x + o ≤ 8
def MoreOk (f : Nat) : Prop := ∀ (e o k n : Nat) (c : List R) (ws : List Wd) (x : R) (n2 : Nat) (rest : List Wd), moreF e f o k c n ws = .ok (x, n2, rest) → o ≤ 8 → okA k c.length → textW ws = sepW k c.length → (2 ≤ k ∧ k ≤ 7) →
  ∃ ps l, ws = ps ++ rest ∧ l ≠ [] ∧ x = .mk k zD (c ++ l) ∧ ps.map Prod.fst = wordsL k c.length l ++ [[41]] ∧ allP l = true ∧ okN k (c.length + l.length) = true ∧ n2 = n + counts l ∧ n2 ≤ 24 ∧ deeps l + o ≤ 8
theorem read_back : ∀ f, ReadOk f ∧ MoreOk f := by
  intro f
  induction f with
  | zero =>
    refine ⟨fun e o n ws x n2 rest h => ?_, fun e o k n c ws x n2 rest h => ?_⟩
    · rw [readF] at h; cases h
    · rw [moreF] at h; cases h
  | succ f ih =>
    obtain ⟨ihR, ihM⟩ := ih
    refine ⟨fun e o n ws x n2 rest h ho => ?_, fun e o k n c ws x n2 rest h ho hA hs hk => ?_⟩
    · match ws, h with
      | [], h => rw [readF] at h; cases h
      | (w, p) :: ws, h =>
        rw [readF] at h
        by_cases c1 : w = [] ∨ w = [41]
        · rw [if_pos c1] at h; cases h
        rw [if_neg c1] at h
        by_cases c2 : w = [40] ∧ o = 8
        · rw [if_pos c2] at h; cases h
        rw [if_neg c2] at h
        by_cases c3 : 24 < n + 1
        · rw [if_pos c3] at h; cases h
        rw [if_neg c3] at h
        by_cases c4 : w ≠ [40]
        · rw [if_pos c4] at h
          obtain ⟨d, ps, h1, rfl, rfl, h4, h5⟩ := atom_ok h
          refine ⟨(w, p) :: ps, by rw [h4]; rfl, ?_, part_atom.2 ⟨h1, rfl⟩, by rw [count, counts], by omega, by rw [deep, if_pos rfl]; omega⟩
          rw [wordsR, if_pos rfl, ← h5]
          rfl
        · rw [if_neg c4] at h
          have hw : w = [40] := by simpa using c4
          subst hw
          have ho7 : o ≠ 8 := fun e => c2 ⟨rfl, e⟩
          cases hr : readF e f (o + 1) (n + 1) ws with
          | error y => rw [hr] at h; cases h
          | ok y =>
            obtain ⟨a, na, wa⟩ := y
            rw [hr] at h
            simp only at h
            by_cases c5 : kindW (textW wa) = 0
            · rw [if_pos c5] at h; cases h
            rw [if_neg c5] at h
            obtain ⟨pa, ea, ma, pta, na1, na2, da⟩ := ihR _ _ _ _ _ _ _ hr (by omega)
            obtain ⟨k1, k2, k3⟩ := kindW_some c5
            obtain ⟨pm, l, em, hl, rfl, mm, al, ok, n1, n2', dl⟩ := ihM _ _ _ _ _ _ _ _ _ h (by omega) (okA_first ⟨k1, k2⟩) (by rw [show [a].length = 1 from rfl, sepW_one, k3]) ⟨k1, k2⟩
            have hk1 : kindW (textW wa) ≠ 1 := by omega
            refine ⟨([40], p) :: (pa ++ pm), by rw [ea, em]; simp, ?_, ?_, ?_, n2', ?_⟩
            · rw [wordsR, if_neg hk1, List.map_cons, List.map_append, ma, mm, List.singleton_append, wordsL_cons, show sepL (kindW (textW wa)) 0 = [] from rfl]
              simp
            · exact (part_other hk1).2 ⟨by simpa [Nat.add_comm] using ok, by rw [List.singleton_append]; exact allP_cons.2 ⟨pta, al⟩, rfl⟩
            · rw [count, List.singleton_append, counts]
              omega
            · rw [deep, if_neg hk1, List.singleton_append, deeps]
              omega
    · rw [moreF] at h
      obtain ⟨t, a, l0, rfl, et⟩ := text_ne (ws := ws) (by rw [hs]; exact (sep_ne hk _).1)
      rw [List.tail_cons] at h
      have htt : t = sepW k c.length := by rw [← et, hs]
      cases hr : readF e f o n l0 with
      | error y => rw [hr] at h; cases h
      | ok y =>
        obtain ⟨b, nb, wb⟩ := y
        rw [hr] at h
        simp only at h
        obtain ⟨pb, eb, mb, ptb, nb1, nb2, db⟩ := ihR _ _ _ _ _ _ _ hr ho
        by_cases c1 : textW wb = [41]
        · rw [if_pos c1] at h
          injection h with h
          injection h with h1 h2
          injection h2 with h2 h3
          obtain ⟨t2, a2, l2, rfl, et2⟩ := text_ne (ws := wb) (by rw [c1]; simp)
          rw [List.tail_cons] at h3
          subst h1
          subst h2
          subst h3
          refine ⟨(t, a) :: (pb ++ [(t2, a2)]), [b], by rw [eb]; simp, by simp, rfl, ?_, allP_cons.2 ⟨ptb, by rw [allP]⟩, okA_ok hA, by rw [counts, counts]; omega, nb2, by rw [deeps, deeps]; omega⟩
          rw [wordsL_cons, sepL_pos hA.1, wordsL, List.map_cons, List.map_append, mb, htt, show t2 = [41] by rw [← et2, c1]]
          simp
        · rw [if_neg c1] at h
          by_cases c2 : moreW k (c.length + 1) (textW wb) = true
          · rw [if_pos c2] at h
            obtain ⟨hA2, hs2⟩ := moreW_next hA c2
            have hlen : (c ++ [b]).length = c.length + 1 := by simp
            obtain ⟨pm, l, em, hl, rfl, mm, al, ok, n1, n2', dl⟩ := ihM _ _ _ _ _ _ _ _ _ h ho (by rw [hlen]; exact hA2) (by rw [hlen]; exact hs2) hk
            refine ⟨(t, a) :: (pb ++ pm), b :: l, by rw [eb, em]; simp, by simp, by simp, ?_, allP_cons.2 ⟨ptb, al⟩, ?_, by rw [counts]; omega, n2', by rw [deeps]; omega⟩
            · rw [wordsL_cons, sepL_pos hA.1, List.map_cons, List.map_append, mb, mm, htt, hlen]
              simp
            · rw [hlen] at ok
              rw [List.length_cons, show c.length + (l.length + 1) = c.length + 1 + l.length by omega]
              exact ok
          · rw [if_neg c2] at h; cases h
/-- Places, and errors. -/
def Err (e : Nat) (y : Nat × Int) : Prop := y.1 ≤ e ∧ (y.2 = 4 ∨ y.2 = 21 ∨ y.2 = 40)
def Below' (e : Nat) (ws : List Wd) : Prop := ∀ q ∈ ws, q.2 ≤ e
theorem below_place {e : Nat} {ws : List Wd} (h : Below' e ws) : placeW e ws ≤ e := by
  cases ws with
  | nil => exact Nat.le_refl _
  | cons q l => exact h q (by simp)
theorem atom_err {w : List UInt8} {p n e : Nat} {rest : List Wd} {y : Nat × Int} (hp : p ≤ e) (h : atomF w p n rest = .error y) : Err e y := by
  have fin : ∀ ws r, finF ws p n r = .error y → Err e y := by
    intro ws r h
    unfold finF at h
    cases ho : ofD ws with
    | none => rw [ho] at h; injection h with h; subst h; exact ⟨hp, .inl rfl⟩
    | some d => rw [ho] at h; cases h
  unfold atomF at h
  split at h
  · split at h
    · exact fin _ _ h
    · exact fin _ _ h
  · exact fin _ _ h
theorem read_err : ∀ f, (∀ (e o n : Nat) (ws : List Wd) y, readF e f o n ws = .error y → o ≤ 8 → Below' e ws → Err e y) ∧ (∀ (e o k n : Nat) (c : List R) (ws : List Wd) y, moreF e f o k c n ws = .error y → o ≤ 8 → Below' e ws → Err e y) := by
  intro f
  induction f with
  | zero =>
    refine ⟨fun e o n ws y h _ _ => ?_, fun e o k n c ws y h _ _ => ?_⟩
    · rw [readF] at h; injection h with h; subst h; exact ⟨Nat.le_refl _, .inl rfl⟩
    · rw [moreF] at h; injection h with h; subst h; exact ⟨Nat.le_refl _, .inl rfl⟩
  | succ f ih =>
    obtain ⟨ihR, ihM⟩ := ih
    refine ⟨fun e o n ws y h ho hb => ?_, fun e o k n c ws y h ho hb => ?_⟩
    · match ws, h, hb with
      | [], h, _ => rw [readF] at h; injection h with h; subst h; exact ⟨Nat.le_refl _, .inl rfl⟩
      | (w, p) :: ws, h, hb =>
        have hp : p ≤ e := hb (w, p) (by simp)
        have hb' : Below' e ws := fun q hq => hb q (by simp [hq])
        rw [readF] at h
        by_cases c1 : w = [] ∨ w = [41]
        · rw [if_pos c1] at h; injection h with h; subst h; exact ⟨hp, .inl rfl⟩
        rw [if_neg c1] at h
        by_cases c2 : w = [40] ∧ o = 8
        · rw [if_pos c2] at h; injection h with h; subst h; exact ⟨hp, .inr (.inl rfl)⟩
        rw [if_neg c2] at h
        by_cases c3 : 24 < n + 1
        · rw [if_pos c3] at h; injection h with h; subst h; exact ⟨hp, .inr (.inr rfl)⟩
        rw [if_neg c3] at h
        by_cases c4 : w ≠ [40]
        · rw [if_pos c4] at h
          exact atom_err hp h
        · rw [if_neg c4] at h
          have hw : w = [40] := by simpa using c4
          have ho7 : o ≠ 8 := fun e => c2 ⟨hw, e⟩
          cases hr : readF e f (o + 1) (n + 1) ws with
          | error z => rw [hr] at h; injection h with h; subst h; exact ihR _ _ _ _ _ hr (by omega) hb'
          | ok z =>
            obtain ⟨a, na, wa⟩ := z
            rw [hr] at h
            simp only at h
            obtain ⟨pa, ea, _⟩ := (read_back f).1 _ _ _ _ _ _ _ hr (by omega)
            have hba : Below' e wa := fun q hq => hb' q (by rw [ea]; simp [hq])
            by_cases c5 : kindW (textW wa) = 0
            · rw [if_pos c5] at h; injection h with h; subst h; exact ⟨below_place hba, .inl rfl⟩
            rw [if_neg c5] at h
            exact ihM _ _ _ _ _ _ _ h (by omega) hba
    · rw [moreF] at h
      have hbt : Below' e ws.tail := fun q hq => hb q (List.mem_of_mem_tail hq)
      cases hr : readF e f o n ws.tail with
      | error z => rw [hr] at h; injection h with h; subst h; exact ihR _ _ _ _ _ hr ho hbt
      | ok z =>
        obtain ⟨b, nb, wb⟩ := z
        rw [hr] at h
        simp only at h
        obtain ⟨pb, eb, _⟩ := (read_back f).1 _ _ _ _ _ _ _ hr ho
        have hbb : Below' e wb := fun q hq => hbt q (by rw [eb]; simp [hq])
        by_cases c1 : textW wb = [41]
        · rw [if_pos c1] at h; cases h
        rw [if_neg c1] at h
        by_cases c2 : moreW k (c.length + 1) (textW wb) = true
        · rw [if_pos c2] at h
          exact ihM _ _ _ _ _ _ _ h ho hbb
        · rw [if_neg c2] at h; injection h with h; subst h; exact ⟨below_place hbb, .inl rfl⟩
end Rich
end Go.Proofs.YtoebokgpdkklmaaGreatDoor

namespace Go.Proofs.YtoebokgpdkklmaaGreatDoor
namespace Rich
open Ver Evr Span Dep Lex

theorem whole_iff {x : R} : whole x = true ↔ part x = true ∧ count x ≤ 24 ∧ deep x ≤ 8 := by
  unfold whole
  simp [and_assoc]
theorem plain_word (k : Nat) (hk : 2 ≤ k ∧ k ≤ 7) (i : Nat) : plain (sepW k i) = true := by
  have : k = 2 ∨ k = 3 ∨ k = 4 ∨ k = 5 ∨ k = 6 ∨ k = 7 := by omega
  unfold sepW
  split
  · decide
  · rcases this with rfl | rfl | rfl | rfl | rfl | rfl <;> decide
mutual
theorem words_plain : ∀ (x : R), part x = true → ∀ w ∈ wordsR x, plain w = true
  | .mk k d l, hx, w, hw => by
    by_cases hk : k = 1
    · subst hk
      rw [wordsR, if_pos rfl] at hw
      exact wordsD_plain (part_atom.1 hx).1 w hw
    · obtain ⟨h1, h2, _⟩ := (part_other hk).1 hx
      obtain ⟨k1, k2, _⟩ := okN_kind h1
      rw [wordsR, if_neg hk] at hw
      rcases List.mem_cons.1 hw with rfl | hw
      · decide
      · rcases List.mem_append.1 hw with hw | hw
        · exact wordsL_plain l h2 k 0 ⟨k1, k2⟩ w hw
        · rw [List.mem_singleton.1 hw]; decide
theorem wordsL_plain : ∀ (l : List R), allP l = true → ∀ (k i : Nat), (2 ≤ k ∧ k ≤ 7) → ∀ w ∈ wordsL k i l, plain w = true
  | [], _, k, i, _, w, hw => by rw [wordsL] at hw; simp at hw
  | x :: l, hl, k, i, hk, w, hw => by
    obtain ⟨h1, h2⟩ := allP_cons.1 hl
    rw [wordsL_cons] at hw
    rcases List.mem_append.1 hw with hw | hw
    · unfold sepL at hw
      split at hw
      · simp at hw
      · rw [List.mem_singleton.1 hw]; exact plain_word k hk i
    · rcases List.mem_append.1 hw with hw | hw
      · exact words_plain x h1 w hw
      · exact wordsL_plain l h2 k (i + 1) hk w hw
end
/-- What the words of a text read as. -/
theorem parse_words {s : List UInt8} {x : R} (hs : s.length ≤ 4096) (hb : bad s = none) (hw : (words s).map Prod.fst = wordsR x) (hx : whole x = true) : parseF s = .ok x := by
  obtain ⟨h1, h2, h3⟩ := whole_iff.1 hx
  have ha := answer_ok hs hb
  unfold parseF
  rw [ha]
  simp only []
  have := read_words x h1 s.length ((words s).length + 1) 0 0 (words s) [] hw (by simp) (by omega) (by omega) noOp_nil
  rw [List.append_nil] at this
  rw [if_neg (by simp), this]
theorem show_zero {x : R} {t : List UInt8} (h : showN x = (t, 0)) : whole x = true ∧ t = join (wordsR x) ∧ t.length ≤ 4096 := by
  unfold showN at h
  split at h
  · rename_i hw
    split at h
    · injection h with _ h2; simp at h2
    · injection h with h1 _
      exact ⟨hw, h1.symm, by rw [← h1]; omega⟩
  · injection h with _ h2; simp at h2
theorem parse_show8 {x : R} {t : List UInt8} (h : showN x = (t, 0)) : parseF t = .ok x := by
  obtain ⟨h1, rfl, h3⟩ := show_zero h
  have hp := words_plain x (whole_iff.1 h1).1
  exact parse_words h3 (join_bad hp) (by rw [words_join hp, placed_texts]) h1
/-- Unlike ones have unlike texts. -/
theorem show_unlike {a b : R} {t : List UInt8} (ha : showN a = (t, 0)) (hb : showN b = (t, 0)) : a = b := by
  have h1 := parse_show8 ha
  rw [parse_show8 hb] at h1
  injection h1 with h1
  exact h1.symm
theorem parse_ok8 {s : List UInt8} {x : R} (h : parseF s = .ok x) : whole x = true ∧ (words s).map Prod.fst = wordsR x ∧ bad s = none ∧ s.length ≤ 4096 := by
  unfold parseF at h
  split at h
  · cases h
  · rename_i h0
    rcases answer_cases s with ⟨_, e⟩ | ⟨_, i, _, _, e⟩ | ⟨hl, hb, e⟩
    · rw [e] at h0; simp at h0
    · rw [e] at h0; simp at h0
    · rw [e] at h
      simp only at h
      cases hr : readF s.length ((words s).length + 1) 0 0 (words s) with
      | error y => rw [hr] at h; cases h
      | ok y =>
        obtain ⟨z, nz, wz⟩ := y
        rw [hr] at h
        cases wz with
        | cons q l => cases h
        | nil =>
          injection h with h
          subst h
          obtain ⟨ps, e1, e2, e3, e4, e5, e6⟩ := (read_back _).1 _ _ _ _ _ _ _ hr (by omega)
          rw [List.append_nil] at e1
          exact ⟨whole_iff.2 ⟨e3, by omega, by omega⟩, by rw [e1, e2], hb, hl⟩
theorem words_below {s : List UInt8} (hb : bad s = none) : Below' s.length (words s) := by
  have key : ∀ (ws : List Wd) (e : Nat) (pv : Bool) (r : List UInt8), Lies e pv ws r → ∀ q ∈ ws, q.2 ≤ e + r.length := by
    intro ws
    induction ws with
    | nil => intro _ _ _ _ q hq; simp at hq
    | cons q0 ws ih =>
      intro e pv r hl q hq
      obtain ⟨t, a⟩ := q0
      obtain ⟨k, r', hr, ha, _, _, hl⟩ := hl
      have hlen := congrArg List.length hr
      simp only [List.length_append, List.length_replicate] at hlen
      rcases List.mem_cons.1 hq with rfl | hq
      · show a ≤ _
        omega
      · have := ih _ _ _ hl q hq
        omega
  intro q hq
  have := key _ _ _ _ (lies_words hb) q hq
  omega
/-- What is refused is so at a place within the text, or at its end. -/
theorem parse_err8 {s : List UInt8} {y : Nat × Int} (h : parseF s = .error y) : Err s.length y := by
  unfold parseF at h
  rcases answer_cases s with ⟨_, e⟩ | ⟨_, i, _, hi, e⟩ | ⟨hl, hb, e⟩
  · rw [e] at h; injection h with h; subst h; exact ⟨Nat.zero_le _, .inr (.inr rfl)⟩
  · rw [e] at h; injection h with h; subst h; exact ⟨by show i ≤ _; omega, .inl rfl⟩
  · rw [e] at h
    have hB := words_below hb
    simp only at h
    rw [if_neg (by simp)] at h
    cases hr : readF s.length ((words s).length + 1) 0 0 (words s) with
    | error z =>
      rw [hr] at h
      injection h with h
      subst h
      exact (read_err _).1 _ _ _ _ _ hr (by omega) hB
    | ok z =>
      obtain ⟨x, nz, wz⟩ := z
      rw [hr] at h
      cases wz with
      | nil => cases h
      | cons q l =>
        injection h with h
        subst h
        obtain ⟨ps, e1, _⟩ := (read_back _).1 _ _ _ _ _ _ _ hr (by omega)
        exact ⟨hB q (by rw [e1]; simp), .inl rfl⟩
/-- With spaces more about it a text is read the same. -/
theorem parse_spaces {s : List UInt8} {x : R} (h : parseF s = .ok x) (hl : s.length ≤ 4000) : parseF ([32, 32] ++ s ++ [32]) = .ok x := by
  obtain ⟨h1, h2, h3, _⟩ := parse_ok8 h
  have hb : bad ([32, 32] ++ s ++ [32]) = none := by
    refine bad_none.2 fun b hbm => ?_
    have h3' := bad_none.1 h3
    rcases List.mem_append.1 hbm with hbm | hbm
    · rcases List.mem_append.1 hbm with hbm | hbm
      · simp at hbm; rw [hbm]; decide
      · exact h3' b hbm
    · rw [List.mem_singleton.1 hbm]; decide
  refine parse_words (by simp; omega) hb ?_ h1
  rw [← h2]
  have e : words ([32, 32] ++ s ++ [32]) = cont none 2 (s ++ 32 :: []) := by
    unfold words
    show cont none 0 (List.replicate 2 32 ++ (s ++ [32])) = _
    rw [cont_spaces]
  rw [e, cont_append, show cont none (2 + s.length + 1) [] = [] from rfl, List.append_nil]
  have := cont_shift 2 s none 0
  rw [show Option.map (shift 2) none = none from rfl, show 0 + 2 = 2 from rfl] at this
  rw [this, List.map_map]
  show List.map (Prod.fst ∘ shift 2) (words s) = _
  congr 1
theorem allP_all : ∀ {l : List R}, allP l = true ↔ ∀ x ∈ l, part x = true
  | [] => by rw [allP]; simp
  | x :: l => by rw [allP_cons, allP_all]; simp
theorem counts_app : ∀ a b : List R, counts (a ++ b) = counts a + counts b
  | [], b => by rw [counts, List.nil_append, Nat.zero_add]
  | x :: a, b => by rw [List.cons_append, counts, counts, counts_app a b]; omega
theorem deeps_app : ∀ a b : List R, deeps (a ++ b) = max (deeps a) (deeps b)
  | [], b => by rw [deeps, List.nil_append]; omega
  | x :: a, b => by rw [List.cons_append, deeps, deeps, deeps_app a b]; omega
theorem count_mem {x : R} : ∀ {l : List R}, x ∈ l → count x ≤ counts l ∧ deep x ≤ deeps l
  | y :: l, h => by
    rw [counts, deeps]
    rcases List.mem_cons.1 h with rfl | h
    · omega
    · have := count_mem h
      omega
/-- Each part of what is whole is whole. -/
theorem whole_args {k : Nat} {d : D} {l : List R} (h : whole (.mk k d l) = true) : ∀ y ∈ l, whole y = true := by
  intro y hy
  obtain ⟨h1, h2, h3⟩ := whole_iff.1 h
  by_cases hk : k = 1
  · subst hk
    rw [(part_atom.1 h1).2] at hy
    simp at hy
  · obtain ⟨_, h4, _⟩ := (part_other hk).1 h1
    obtain ⟨c1, c2⟩ := count_mem hy
    rw [count] at h2
    rw [deep, if_neg hk] at h3
    exact whole_iff.2 ⟨allP_all.1 h4 y hy, by omega, by omega⟩
theorem whole_turned {k : Nat} (hk : k = 2 ∨ k = 3 ∨ k = 6) {d dm : D} {a : R} {l lm : List R} (h : whole (.mk k d (a :: l)) = true) (hm : whole (.mk 1 dm lm) = true) :
    whole (.mk k d (.mk 1 dm lm :: (l ++ [a]))) = decide (count (.mk k d (a :: l)) + 1 ≤ 24) := by
  obtain ⟨h1, h2, h3⟩ := whole_iff.1 h
  obtain ⟨m1, _, _⟩ := whole_iff.1 hm
  have hk1 : k ≠ 1 := by omega
  obtain ⟨g1, g2, g3⟩ := (part_other hk1).1 h1
  obtain ⟨_, rfl⟩ := part_atom.1 m1
  have hp : part (.mk k d (.mk 1 dm [] :: (l ++ [a]))) = true := by
    refine (part_other hk1).2 ⟨?_, ?_, g3⟩
    · unfold okN at g1 ⊢
      rw [if_pos hk] at g1 ⊢
      simp at g1 ⊢
    · obtain ⟨ga, gl⟩ := allP_cons.1 g2
      refine allP_cons.2 ⟨m1, allP_all.2 fun y hy => ?_⟩
      rcases List.mem_append.1 hy with hy | hy
      · exact allP_all.1 gl y hy
      · rw [List.mem_singleton.1 hy]; exact ga
  have hc : count (.mk k d (.mk 1 dm [] :: (l ++ [a]))) = count (.mk k d (a :: l)) + 1 := by
    rw [count, count, counts, counts_app, count, counts, counts, counts, counts]
    omega
  have hd : deep (.mk k d (.mk 1 dm [] :: (l ++ [a]))) ≤ 8 := by
    rw [deep, if_neg hk1] at h3 ⊢
    rw [deeps, deeps_app, deep, if_pos rfl, deeps, deeps]
    rw [deeps] at h3
    omega
  unfold whole
  rw [hp, hc]
  simp [hd]
end Rich
end Go.Proofs.YtoebokgpdkklmaaGreatDoor

namespace Go.Proofs.YtoebokgpdkklmaaGreatDoor
open Go.RowKit

/-- Block g holds just these cells, of element type t, none of them frozen. -/
def Box (w : World) (g : Nat) (t : TypeId) (cs : Array Value) : Prop := w.heap[g]? = some (.cells cs t (0, 0))

section
variable {w w' : World} {g g' : Nat} {t t' : TypeId} {cs cs' : Array Value}
theorem Box.lt (h : Box w g t cs) : g < w.heap.size := by
  by_cases hlt : g < w.heap.size
  · exact hlt
  · exfalso
    have hn : w.heap[g]? = none := Array.getElem?_eq_none (by omega)
    unfold Box at h
    rw [hn] at h
    cases h
theorem Box.cell (h : Box w g t cs) (i : Nat) : w.cell? ⟨g, i, none⟩ = cs[i]? := cell_of_row w g i cs t (0, 0) h
theorem Box.free (h : Box w g t cs) (i : Nat) : w.frozen? ⟨g, i, none⟩ = false := by unfold Box at h; simp [World.frozen?, h]
theorem Box.made (w : World) (t : TypeId) (cs : Array Value) : Box (w.alloc (.cells cs t)) w.heap.size t cs := heap_alloc_new w _
theorem Box.after_alloc (h : Box w g t cs) (o : Obj) : Box (w.alloc o) g t cs := (Below.heap_alloc w o g h.lt).trans h
theorem Box.stored (h : Box w g t cs) (i : Nat) (u : Value) : Box (w.setCell ⟨g, i, none⟩ u) g t (cs.setIfInBounds i u) := by
  unfold Box at h ⊢
  simp [World.setCell, Array.getElem?_modify, h]
theorem Box.apart (h : Box w g t cs) (h' : Box w g' t' cs') (hne : t ≠ t') : g ≠ g' := by
  intro e
  subst e
  have e2 : some (Obj.cells cs t (0, 0)) = some (Obj.cells cs' t' (0, 0)) := h.symm.trans h'
  injection e2 with e2
  injection e2 with _ e3
  exact hne e3
theorem Box.of_own_ne {base size n : Nat} {e : TypeId} {v : Value} {xs : List Value} (hg : Box w g t cs) (h : w.ownsRow base e size v n xs) (hne : e ≠ t) : ∀ i, v.ownBlock = some i → i ≠ g := by
  intro i hi
  rcases h.2 with ⟨hv, _⟩ | ⟨b, cap, cur, hv, _, hh, _⟩
  · subst hv; simp [Value.ownBlock] at hi
  · subst hv
    have hb : b = i := by simpa [Value.ownBlock] using hi
    subst hb
    exact Box.apart (t := e) hh hg hne
end

theorem own_form {w : World} {base size n : Nat} {e : TypeId} {v : Value} {xs : List Value} (h : w.ownsRow base e size v n xs) : ∃ a c, v = .slice a n c := by
  rcases h.2 with ⟨hv, hn⟩ | ⟨b, cap, cur, hv, _⟩
  · subst hn; exact ⟨none, 0, hv⟩
  · exact ⟨_, _, hv⟩

/-- Of the blocks that were there only those of S may have turned. -/
structure Kept (S : Nat → Prop) (w w' : World) : Prop where
  os : w'.os = w.os
  tape : w'.tape = w.tape
  output : w'.output = w.output
  size : w.heap.size ≤ w'.heap.size
  block : ∀ i, i < w.heap.size → ¬ S i → w'.heap[i]? = w.heap[i]?

section
variable {S T : Nat → Prop} {a w w' : World}
theorem Kept.refl (S : Nat → Prop) (w : World) : Kept S w w := ⟨rfl, rfl, rfl, Nat.le_refl _, fun _ _ _ => rfl⟩
theorem Kept.trans (h : Kept S a w) (k : Kept T w w') (hT : ∀ i, i < a.heap.size → T i → S i) : Kept S a w' :=
  ⟨k.os.trans h.os, k.tape.trans h.tape, k.output.trans h.output, Nat.le_trans h.size k.size,
    fun i hi hS => (k.block i (Nat.lt_of_lt_of_le hi h.size) (fun ht => hS (hT i hi ht))).trans (h.block i hi hS)⟩
theorem Kept.weaker (h : Kept S w w') (hT : ∀ i, i < w.heap.size → S i → T i) : Kept T w w' :=
  ⟨h.os, h.tape, h.output, h.size, fun i hi hS => h.block i hi (fun hs => hS (hT i hi hs))⟩
theorem Kept.alloc (h : Kept S a w) (o : Obj) : Kept S a (w.alloc o) :=
  ⟨h.os, h.tape, h.output, Nat.le_trans h.size (by simp), fun i hi hS => (Below.heap_alloc w o i (Nat.lt_of_lt_of_le hi h.size)).trans (h.block i hi hS)⟩
theorem Kept.drew (h : Kept S a w) : Kept S a w.drew := ⟨h.os, h.tape, h.output, h.size, h.block⟩
theorem Kept.drewN (h : Kept S a w) (n : Nat) : Kept S a (w.drewN n) := ⟨h.os, h.tape, h.output, h.size, h.block⟩
theorem Kept.setCell (h : Kept S a w) {p : Addr} (hp : S p.block ∨ a.heap.size ≤ p.block) (u : Value) : Kept S a (w.setCell p u) :=
  ⟨h.os, h.tape, h.output, by simpa [World.setCell] using h.size, fun i hi hS => (Below.heap_setCell w p u i (by
    intro e
    subst e
    rcases hp with hp | hp
    · exact hS hp
    · omega)).trans (h.block i hi hS)⟩
theorem Kept.grown {row : Option Nat} (h : Kept S a w) (hg : w.grownBy w' row) (hr : ∀ i, row = some i → S i ∨ a.heap.size ≤ i) : Kept S a w' :=
  ⟨hg.os.trans h.os, hg.tape.trans h.tape, hg.output.trans h.output, Nat.le_trans h.size hg.size,
    fun i hi hS => (hg.block i (Nat.lt_of_lt_of_le hi h.size) (fun e => by
      rcases hr i e.symm with hr | hr
      · exact hS hr
      · omega)).trans (h.block i hi hS)⟩
theorem Kept.of_below {B : Nat} (h : Below B w w') (hS : ∀ i, i < w.heap.size → B ≤ i → S i) : Kept S w w' :=
  ⟨h.os, h.tape, h.output, h.size, fun i hi hs => h.block i (by
    by_cases hb : i < B
    · exact hb
    · exact absurd (hS i hi (by omega)) hs)⟩
theorem Kept.below {B : Nat} (h : Kept S w w') (hB : B ≤ w.heap.size) (hS : ∀ i, S i → B ≤ i) : Below B w w' :=
  ⟨h.os, h.tape, h.output, h.size, fun i hi => h.block i (by omega) (fun hs => by have := hS i hs; omega)⟩
theorem Kept.box {g : Nat} {t : TypeId} {cs : Array Value} (h : Kept S w w') (hb : Box w g t cs) (hg : ¬ S g) : Box w' g t cs := (h.block g hb.lt hg).trans hb
theorem Kept.cell (h : Kept S w w') {p : Addr} (hp : p.block < w.heap.size) (hg : ¬ S p.block) : w'.cell? p = w.cell? p := World.cell?_of_block (h.block p.block hp hg)
end

theorem Kept.owns {S : Nat → Prop} {w w' : World} (h : Kept S w w') {base size n : Nat} {e : TypeId} {v : Value} {xs : List Value} (ho : w.ownsRow base e size v n xs) (hS : ∀ i, v.ownBlock = some i → ¬ S i) : w'.ownsRow base e size v n xs := by
  have hlt := ho.lt
  obtain ⟨h1, h2⟩ := ho
  refine ⟨h1, ?_⟩
  rcases h2 with h2 | ⟨b, cap, cur, e3, e4, e5, e6⟩
  · exact .inl h2
  · have hb : v.ownBlock = some b := by rw [e3]; rfl
    exact .inr ⟨b, cap, cur, e3, e4, (h.block b (hlt b hb).2 (hS b hb)).trans e5, e6⟩

/-- Bytes as cells of kind uint8. -/
def cellsB (l : List UInt8) : List Value := l.map fun b => Value.int .u8 (b.toNat : Int)
theorem cellsB_app (a b : List UInt8) : cellsB (a ++ b) = cellsB a ++ cellsB b := List.map_append
theorem cellsB_len (a : List UInt8) : (cellsB a).length = a.length := List.length_map _
theorem cellsB_one (a : List UInt8) : ∀ u ∈ cellsB a, u.oneCell' = true := by
  intro u hu
  obtain ⟨_, _, rfl⟩ := List.mem_map.1 hu
  rfl
theorem cellsB_str (s : ByteArray) : Lib.strCells s = cellsB s.data.toList := rfl
section
variable {P : Program} (w : World)
/-- A string's bytes appended to a row of the call's own: where the new row lies. -/
theorem run_str_at (base : Nat) (t u ty e : TypeId) (i : TypeInfo) (ht : P.underlying t = some (.slice e)) (hu : P.underlying u = some .string) (hi : P.info? e = some i) (hz : i.zero = some (.int .u8 0))
    (hsize : i.size = 1) (hby : i.bytes = 1) (v : Value) (n : Nat) (xs : List Value) (hown : w.ownsRow base e 1 v n xs) (s : ByteArray)
    (h63 : n + s.size ≤ maxLen) (hbytes : n + s.size ≤ 140737488355328) (hbase : base ≤ w.heap.size) :
    ∃ v' w', (Builtin.append_ #[t, u] ty #[v, .string s]).run P w = .ok v' w' ∧ w'.ownsRow base e 1 v' (n + s.size) (xs ++ Lib.strCells s) ∧ w.grownBy w' v.ownBlock ∧
      (v'.ownBlock = v.ownBlock ∨ v'.ownBlock = some w.heap.size) := by
  obtain ⟨v', w', hr, ho, hg, _⟩ := Lib.run_append_own_string (P := P) w base t u ty e i ht hu hi hz hsize hby v n xs hown s h63 hbytes hbase
  refine ⟨v', w', hr, ho, hg, ?_⟩
  have hsmall : n + s.size ≤ 9223372036854775807 := by simp only [maxLen] at h63; omega
  have key : ∀ v2 w2, (Builtin.append_ #[t, u] ty #[v, .string s]).run P w = .ok v2 w2 → v' = v2 := by
    intro v2 w2 h2
    rw [hr] at h2
    injection h2
  rcases hown.2 with ⟨rfl, rfl⟩ | ⟨g, cap, cur, rfl, _, hh, _, _, hcs, _⟩
  · by_cases h0 : s.size = 0
    · have hl : (xs ++ Lib.strCells s).length = 0 := by rw [ho.1, h0]
      rcases ho.2 with ⟨e1, _⟩ | ⟨g', cap', cur', e1, _⟩
      · rw [e1]; exact .inl rfl
      · obtain ⟨v2, w2, h2, ho2, _, hn⟩ := Lib.run_append_own_string (P := P) w base t u ty e i ht hu hi hz hsize hby _ 0 xs hown s h63 hbytes hbase
        rw [key _ _ h2, hn.2 ⟨rfl, h0⟩]; exact .inl rfl
    · have h2 := run_append_nil_string (P := P) w t u ty e i (.int .u8 0) ht hu hi hz s (by omega) (by omega) (by rw [hby]; omega)
      rw [key _ _ h2]; exact .inr rfl
  · have hcc : cur.size = cap := by simpa using hcs
    by_cases hroom : n + s.size ≤ cap
    · have h2 := Lib.run_append_room_string (P := P) w t u ty e i ht hu hi hsize g n cap cur hh s hroom (by omega)
      rw [key _ _ h2]; exact .inl rfl
    · have hx : xs.length = n := by simpa using hown.1
      have h2 := Lib.run_append_grow_string (P := P) w t u ty e i (.int .u8 0) ht hu hi hz ⟨g, 0, none⟩ n cap xs (by rw [hsize]; simpa using hx) (hown.cells (g := g) rfl) s (by omega) (by omega) (by rw [hby]; exact growslice_fits (by omega) (by omega))
      rw [key _ _ h2]; exact .inr rfl

theorem wpList_str_at {ops : Array Oper} {rest : List Oper} {o : Oper} {a : Act} {Q : Exit → Act → World → Prop} (hgd : o.guard = none) (sl x : Operand) (t u : TypeId)
    (ho : o.op = .call { callee := .builtin .append, args := #[sl, x], argTypes := #[t, u] })
    (base : Nat) (e : TypeId) (i : TypeInfo) (ht : P.underlying t = some (.slice e)) (hu : P.underlying u = some .string) (hi : P.info? e = some i) (hz : i.zero = some (.int .u8 0))
    (hsize : i.size = 1) (hby : i.bytes = 1) (v : Value) (n : Nat) (xs : List Value) (hs : a.eval sl = v) (hown : w.ownsRow base e 1 v n xs) (s : ByteArray) (hx : a.eval x = .string s)
    (h63 : n + s.size ≤ maxLen) (hbytes : n + s.size ≤ 140737488355328) (hbase : base ≤ w.heap.size)
    (h : ∀ v' w', w'.ownsRow base e 1 v' (n + s.size) (xs ++ Lib.strCells s) → w.grownBy w' v.ownBlock → (v'.ownBlock = v.ownBlock ∨ v'.ownBlock = some w.heap.size) → wpList P ops Q rest (a.put o.dst v') w') :
    wpList P ops Q (o :: rest) a w := by
  refine wpList_plain hgd fun K hK => ?_
  obtain ⟨v', w', hr, h2, h3, h4⟩ := run_str_at (P := P) w base t u o.type e i ht hu hi hz hsize hby v n xs hown s h63 hbytes hbase
  unfold Oper.wp execOp
  simp only [ho, resolve, invoke, builtin, Sem.run_bind, Sem.run_pure, Result.andThen_ok, List.map_toArray, List.map_cons, List.map_nil, hs, hx, hr]
  exact hK _ _ (h v' w' h2 h3 h4)
end

/-- One cell in a new block, read as the list of one byte. -/
theorem new_byte (w : World) (t : TypeId) (x : Int) (b : UInt8) (hx : x = (b.toNat : Int)) :
    ∀ j u, (cellsB [b])[j]? = some u → (w.alloc (.cells #[.int .u8 x] t)).cell? ((⟨w.heap.size, 0, none⟩ : Addr).add j) = some u := by
  intro j u hu
  match j, hu with
  | 0, hu =>
    simp [cellsB] at hu
    subst hu
    subst hx
    simp [Addr.add]
  | j + 1, hu => simp [cellsB] at hu
theorem ofNat_val (n : Nat) (h : n < 256) : (n : Int) = ((UInt8.ofNat n).toNat : Int) := by rw [UInt8.toNat_ofNat_of_lt' (by simpa using h)]
/-- A byte under a name of its own. -/
theorem byte_named (n : Nat) (h : n < 256) (x : Int) (hx : x = (n : Int)) : ∃ b : UInt8, b = UInt8.ofNat n ∧ x = (b.toNat : Int) := ⟨_, rfl, by rw [hx]; exact ofNat_val n h⟩
theorem byte_cell (n : Nat) (h : n < 256) : Value.int .u8 (n : Int) = Value.int .u8 ((UInt8.ofNat n).toNat : Int) := by
  rw [UInt8.toNat_ofNat_of_lt' (by simpa using h)]

/-- string(b), b a row of bytes of the call's own. -/
theorem own_string {P : Program} {w : World} {base : Nat} {src dst e : TypeId} {a : Option Addr} {c : Nat} {bs : List UInt8} (hs : P.underlying src = some (.slice e)) (he : P.underlying e = some (.int .u8)) (hd : P.underlying dst = some .string)
    (h : w.ownsRow base e 1 (.slice a bs.length c) bs.length (cellsB bs)) : (convert src dst (.slice a bs.length c)).run P w = .ok (.string ⟨bs.toArray⟩) w := by
  have hc := fun g => h.cells (g := g)
  rcases h.2 with ⟨hv, hn⟩ | ⟨g, cap, cur, hv, _⟩
  · injection hv with h1 h2 h3
    subst h1
    have h0 : bs = [] := List.eq_nil_of_length_eq_zero hn
    subst h0
    exact Lib.run_convert_nil_bytes w src dst e c hs he hd
  · injection hv with h1 h2 h3
    subst h1
    refine run_convert_bytes_back w src dst e _ c bs hs he hd fun j hj => hc g rfl j _ ?_
    simp [cellsB, hj]

/-- string(b) of one byte that lies at the head of a block. -/
theorem one_byte_at {P : Program} {src dst e : TypeId} (hs : P.underlying src = some (.slice e)) (he : P.underlying e = some (.int .u8)) (hd : P.underlying dst = some .string) (x : Int) (b : UInt8) (hx : x = (b.toNat : Int)) :
    ∀ (w : World) (g : Nat), w.cell? ⟨g, 0, none⟩ = some (.int .u8 x) → (convert src dst (.slice (some ⟨g, 0, none⟩) 1 1)).run P w = .ok (.string ⟨#[b]⟩) w := by
  intro w g hg
  refine run_convert_bytes_back w src dst e ⟨g, 0, none⟩ 1 [b] hs he hd fun j hj => ?_
  have h0 : j = 0 := by simpa using hj
  subst h0
  subst hx
  exact hg

/-- string([]byte{b}). -/
theorem one_byte_string {P : Program} (w : World) {src dst e : TypeId} (hs : P.underlying src = some (.slice e)) (he : P.underlying e = some (.int .u8)) (hd : P.underlying dst = some .string) (x : Int) (b : UInt8) (hx : x = (b.toNat : Int)) :
    (convert src dst (.slice (some ⟨w.heap.size, 0, none⟩) 1 1)).run P (w.alloc (.cells #[.int .u8 x] e)) = .ok (.string ⟨#[b]⟩) (w.alloc (.cells #[.int .u8 x] e)) := by
  refine run_convert_bytes_back _ src dst e ⟨w.heap.size, 0, none⟩ 1 [b] hs he hd fun j hj => new_byte w e x b hx j _ ?_
  have h0 : j = 0 := by simpa using hj
  subst h0
  rfl
end Go.Proofs.YtoebokgpdkklmaaGreatDoor

namespace Go.Proofs.YtoebokgpdkklmaaGreatDoor
open Go.RowKit

theorem char_at {s : ByteArray} {k : Nat} {b : UInt8} (h : k < s.size) (hb : b = s[k]) : s.data.toList[k]? = some b := by
  rw [hb, List.getElem?_eq_getElem (by simpa using h)]
  rfl
theorem extract_list (s : ByteArray) (a b : Nat) : s.extract a b = ⟨((s.data.toList.drop a).take (b - a)).toArray⟩ := by
  have := ByteArray.extract_mk s.data.toList a b
  simpa using this
theorem own_cell {w : World} {base n size : Nat} {e : TypeId} {g c : Nat} {xs : List Value} (h : w.ownsRow base e size (.slice (some ⟨g, 0, none⟩) n c) n xs) {j : Nat} {u : Value} (hj : xs[j]? = some u) : w.cell? ⟨g, j, none⟩ = some u ∧ g < w.heap.size := by
  obtain ⟨hl, h | ⟨g', cap, cur, e1, e2, e3, e4, e5, e6, e7⟩⟩ := h
  · exact absurd h.1 (by simp)
  · injection e1 with e1 _ _
    injection e1 with e1
    injection e1 with e1
    subst e1
    refine ⟨?_, (show Box w g e cur from e3).lt⟩
    rw [cell_of_row w g j cur e (0, 0) e3, ← Array.getElem?_toList]
    rw [← e7, List.getElem?_take] at hj
    split at hj
    · exact hj
    · simp at hj
end Go.Proofs.YtoebokgpdkklmaaGreatDoor

namespace Go.Proofs.YtoebokgpdkklmaaGreatDoor
open Go.RowKit

theorem add_block (a : Addr) (i : Nat) : (a.add i).block = a.block := by unfold Addr.add; split <;> rfl
/-- A slice of strings that reads as xs. -/
def StrS (w : World) (v : Value) (xs : List ByteArray) : Prop := ∃ ao cp, v = .slice ao xs.length cp ∧ ∀ j u, xs[j]? = some u → ∃ a : Addr, ao = some a ∧ w.cell? (a.add j) = some (.string u) ∧ a.block < w.heap.size
theorem StrS.kept {w w' : World} {v : Value} {xs : List ByteArray} (h : StrS w v xs) {S : Nat → Prop} (hk : Kept S w w') (hS : ∀ (a : Addr) n cp, v = .slice (some a) n cp → ¬ S a.block) : StrS w' v xs := by
  obtain ⟨ao, cp, hv, hc⟩ := h
  refine ⟨ao, cp, hv, fun j u hj => ?_⟩
  obtain ⟨a, ha, h1, h2⟩ := hc j u hj
  subst ha
  exact ⟨a, rfl, by rw [hk.cell (p := a.add j) (by rw [add_block]; exact h2) (by rw [add_block]; exact hS a _ _ hv)]; exact h1, Nat.lt_of_lt_of_le h2 hk.size⟩
theorem take_more {xs ys : List ByteArray} {i : Nat} {u t : ByteArray} (hx : xs[i]? = some u) (hy : ys[i]? = some t) (h : xs.take i = ys.take i) : (u = t → xs.take (i + 1) = ys.take (i + 1)) ∧ (u ≠ t → xs ≠ ys) := by
  constructor
  · intro e
    rw [List.take_add_one, List.take_add_one, hx, hy, h, e]
  · intro hne e
    rw [e, hy] at hx
    exact hne (Option.some.inj hx).symm

def cellsS (l : List ByteArray) : List Value := l.map Value.string
theorem cellsS_len (l : List ByteArray) : (cellsS l).length = l.length := List.length_map _
theorem own_strs {w : World} {base : Nat} {e : TypeId} {v : Value} {l : List ByteArray} (h : w.ownsRow base e 1 v l.length (cellsS l)) : StrS w v l := by
  obtain ⟨a, cp, rfl⟩ := own_form h
  refine ⟨a, cp, rfl, fun j u hj => ?_⟩
  have hj' : (cellsS l)[j]? = some (.string u) := by simp [cellsS, hj]
  have hlt : j < l.length := (List.getElem?_eq_some_iff.1 hj).1
  rcases h.2 with ⟨_, h0⟩ | ⟨g, cap, cur, e1, _⟩
  · omega
  · injection e1 with e1 e2 e3
    subst e1
    have := own_cell h hj'
    refine ⟨_, rfl, ?_, this.2⟩
    have e : (⟨g, 0, none⟩ : Addr).add j = ⟨g, j, none⟩ := by
      unfold Addr.add
      cases j <;> simp
    rw [e]; exact this.1

/-- A slice of strings in new memory (or with nothing in it). -/
def NewS (base : Nat) (w : World) (v : Value) (xs : List ByteArray) : Prop := (xs = [] ∧ ∃ a c, v = .slice a 0 c) ∨ w.ownsRow base 9 1 v xs.length (cellsS xs)
section
variable {base : Nat} {w w' : World} {v : Value} {xs : List ByteArray}
theorem NewS.strs (h : NewS base w v xs) : StrS w v xs := by
  rcases h with ⟨rfl, a, c, rfl⟩ | h
  · exact ⟨a, c, rfl, fun j u hj => by simp at hj⟩
  · exact own_strs h
theorem NewS.kept {S : Nat → Prop} (h : NewS base w v xs) (hk : Kept S w w') (hS : ∀ i, v.ownBlock = some i → ¬ S i) : NewS base w' v xs := by
  rcases h with h | h
  · exact .inl h
  · exact .inr (hk.owns h hS)
theorem NewS.form (h : NewS base w v xs) : ∃ a c, v = .slice a xs.length c := by
  rcases h with ⟨rfl, a, c, rfl⟩ | h
  · exact ⟨a, c, rfl⟩
  · exact own_form h
end

/-- A literal list of strings. -/
theorem lit_strs (w : World) (t : TypeId) (l : List ByteArray) : StrS (w.alloc (.cells (l.map Value.string).toArray t)) (.slice (some ⟨w.heap.size, 0, none⟩) l.length l.length) l := by
  refine ⟨_, _, rfl, fun j u hj => ⟨_, rfl, ?_, by simp⟩⟩
  have e : (⟨w.heap.size, 0, none⟩ : Addr).add j = ⟨w.heap.size, j, none⟩ := by
    unfold Addr.add
    cases j <;> simp
  rw [e, (Box.made w t _).cell]
  simp [hj]

end Go.Proofs.YtoebokgpdkklmaaGreatDoor
