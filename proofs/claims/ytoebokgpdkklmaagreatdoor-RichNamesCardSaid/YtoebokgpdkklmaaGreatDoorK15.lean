/-
  The walks over the program's own text of layer 8: its table, the word ahead of an Arg, the Kind of a word, how many Args there may be. Conditions: the table lies as the program's text lays it. Rich dependencies (chapter 8): what is whole, gone over part by part with a count. Nothing of the program is named here. Rich dependencies (chapter 8): what is read, in the steps of a reader that goes on by words. Nothing of the program is named here. The walks over the program's own text of layer 8: how many Args there may be, the Kind of a word. Conditions: the table lies as the program's text lays it. Words in memory: a row of words with places, slices of them; joined words as texts. Nothing of the program is named here. The walks over the program's own text of layer 4: the map of the Ops' texts, and what is found in it. Conditions: as each theorem states.
-/
import Derived.Test.YtoebokgpdkklmaaGreatDoorK05
import Derived.Test.YtoebokgpdkklmaaGreatDoorRows
import Derived.Test.YtoebokgpdkklmaaGreatDoorK04
import Derived.ProofKit
import Derived.Deep.MidRow
import Derived.Test.YtoebokgpdkklmaaGreatDoorK03
import Derived.Handy
import Derived.Lib.Hide
import Derived.Test.YtoebokgpdkklmaaGreatDoorK02
import Derived.Maps.RangeWalk
import Derived.Maps.OwnSet
import Derived.StringKeys
namespace Go.Proofs.YtoebokgpdkklmaaGreatDoor
open Go.RowKit
namespace Rich
/-- The word ahead of a third Arg. -/
def furK (k : Nat) : List UInt8 := match k with
  | 2 => [97, 110, 100]
  | 3 => [111, 114]
  | 4 => wElse
  | 5 => wElse
  | 6 => [119, 105, 116, 104]
  | _ => []
def mostK (k : Nat) : Nat := match k with
  | 2 => 24
  | 3 => 24
  | 4 => 3
  | 5 => 3
  | 6 => 24
  | 7 => 2
  | _ => 0
def wordB (k : Nat) : ByteArray := ⟨(wordK k).toArray⟩
def furB (k : Nat) : ByteArray := ⟨(furK k).toArray⟩
def rowV (k : Nat) : Value := .agg #[.string (wordB k), .string (furB k), .int .i64 (mostK k : Int)]
def rowsL : List Value := [.string (wordB 0), .string (furB 0), .int .i64 (mostK 0 : Int), .string (wordB 1), .string (furB 1), .int .i64 (mostK 1 : Int), .string (wordB 2), .string (furB 2), .int .i64 (mostK 2 : Int), .string (wordB 3), .string (furB 3), .int .i64 (mostK 3 : Int), .string (wordB 4), .string (furB 4), .int .i64 (mostK 4 : Int), .string (wordB 5), .string (furB 5), .int .i64 (mostK 5 : Int), .string (wordB 6), .string (furB 6), .int .i64 (mostK 6 : Int), .string (wordB 7), .string (furB 7), .int .i64 (mostK 7 : Int)]
def rowsV : Value := .agg rowsL.toArray
/-- The word ahead of the Arg that i others precede. -/
def aheadW (k i : Nat) : List UInt8 := if 8 ≤ k ∨ mostK k ≤ i then [] else if i = 1 then wordK k else furK k
theorem ahead_sep {k i : Nat} (hk : 2 ≤ k ∧ k ≤ 7) (h1 : 1 ≤ i) (h : okN k (i + 1) = true) (h24 : i < 24) : aheadW k i = sepW k i := by
  obtain ⟨h2, h7⟩ := hk
  have : k = 2 ∨ k = 3 ∨ k = 4 ∨ k = 5 ∨ k = 6 ∨ k = 7 := by omega
  unfold aheadW sepW
  rcases this with rfl | rfl | rfl | rfl | rfl | rfl
  all_goals
    simp [okN] at h
    simp [mostK, furK, wordK]
    repeat' split
    all_goals first | rfl | omega
/-- As many Args as a Kind may have, and no more than 24. -/
theorem ahead_ok {k n : Nat} (hn : n ≤ 24) : (decide (2 ≤ n) && decide (aheadW k (n - 1) ≠ [])) = okN k n := by
  rw [Bool.eq_iff_iff]
  simp only [Bool.and_eq_true, decide_eq_true_eq]
  by_cases hk : k = 2 ∨ k = 3 ∨ k = 4 ∨ k = 5 ∨ k = 6 ∨ k = 7
  · unfold aheadW okN
    rcases hk with rfl | rfl | rfl | rfl | rfl | rfl
    all_goals
      simp [mostK, furK, wordK, wElse]
      repeat' split
      all_goals first | omega | (simp_all; done) | (simp_all; omega)
  · have h1 : aheadW k (n - 1) = [] := by
      unfold aheadW
      have h0 : 8 ≤ k ∨ mostK k = 0 := by
        by_cases h8 : 8 ≤ k
        · exact .inl h8
        · have : k = 0 ∨ k = 1 := by omega
          rcases this with rfl | rfl <;> exact .inr rfl
      rw [if_pos (by omega)]
    have h2 : okN k n = false := by
      unfold okN
      rw [if_neg (by omega), if_neg (by omega), if_neg (by omega)]
    rw [h1, h2]
    simp
/-- The table lies as the program's text lays it. -/
structure RowsW (w : World) : Prop where
  old : 0 < w.heap.size
  at0 : ∀ k, k < 8 → w.cell? ⟨0, k * 3, none⟩ = some (.string (wordB k))
  at1 : ∀ k, k < 8 → w.cell? ⟨0, k * 3 + 1, none⟩ = some (.string (furB k))
  at2 : ∀ k, k < 8 → w.cell? ⟨0, k * 3 + 2, none⟩ = some (.int .i64 (mostK k : Int))
theorem RowsW.kept {w w' : World} (h : RowsW w) (k : Kept (fun _ => False) w w') : RowsW w' := by
  have hlt : ∀ i : Nat, (⟨0, i, none⟩ : Addr).block < w.heap.size := fun _ => h.old
  exact ⟨Nat.lt_of_lt_of_le h.old k.size, fun j hj => (k.cell (hlt _) (fun h => h)).trans (h.at0 j hj), fun j hj => (k.cell (hlt _) (fun h => h)).trans (h.at1 j hj), fun j hj => (k.cell (hlt _) (fun h => h)).trans (h.at2 j hj)⟩
end Rich
open Rich
set_option maxRecDepth 100000 in
set_option maxHeartbeats 2000000 in
theorem aheadP_walk (k i : Nat) (hk : k < 256) (w : World) (hW : RowsW w) :
    Calls Tryz.prog 31 #[.int .u8 (k : Int), .int .i64 (i : Int)] w fun e w' => e = .returned (.string ⟨(aheadW k i).toArray⟩) ∧ w' = w := by
  by_cases h8 : 8 ≤ k
  · have HF := Lib.hid (show aheadW k i = [] by unfold aheadW; rw [if_pos (.inl h8)])
    have h8' : (8 : Int) ≤ (k : Int) := by omega
    clear h8
    go_enter Tryz.func31, Tryz.ntmps31
    go_wp2_with fail
    go_ret
    exact ⟨by rw [HF.out]; rfl, rfl⟩
  · have h0 := hW.at0 k (by omega)
    have h1 := hW.at1 k (by omega)
    have h2 := hW.at2 k (by omega)
    have h8' : (k : Int) < 8 := by omega
    obtain ⟨m, hm⟩ : ∃ m, m = mostK k := ⟨_, rfl⟩
    rw [← hm] at h2
    by_cases hmi : m ≤ i
    · have HF := Lib.hid (show aheadW k i = [] by unfold aheadW; rw [if_pos (.inr (by omega))])
      have hmi' : (m : Int) ≤ (i : Int) := by omega
      clear hm h8 hmi
      go_enter Tryz.func31, Tryz.ntmps31
      go_wp2_with fail
      go_ret
      exact ⟨by rw [HF.out]; rfl, rfl⟩
    · have hmi' : (i : Int) < (m : Int) := by omega
      by_cases hi1 : i = 1
      · have HF := Lib.hid (show aheadW k i = wordK k by unfold aheadW; rw [if_neg (by omega), if_pos hi1])
        have hib : ((i : Int) == 1) = true := by simp; omega
        clear hm h8 hmi hi1
        go_enter Tryz.func31, Tryz.ntmps31
        go_wp2_with fail
        go_ret
        exact ⟨by rw [HF.out]; rfl, rfl⟩
      · have HF := Lib.hid (show aheadW k i = furK k by unfold aheadW; rw [if_neg (by omega), if_neg hi1])
        have hib : ((i : Int) == 1) = false := by simp; omega
        clear hm h8 hmi hi1
        go_enter Tryz.func31, Tryz.ntmps31
        go_wp2_with fail
        go_ret
        exact ⟨by rw [HF.out]; rfl, rfl⟩
end Go.Proofs.YtoebokgpdkklmaaGreatDoor

namespace Go.Proofs.YtoebokgpdkklmaaGreatDoor
namespace Rich
open Dep

def mayA (k n : Nat) : Bool := decide (2 ≤ n) && decide (aheadW k (n - 1) ≠ [])
mutual
/-- Whether a part is whole at nest n, when c parts were gone over; and how many were then. -/
def goX : R → Nat → Nat → Bool × Nat
  | .mk k d l, n, c =>
    if 24 < c + 1 then (false, c + 1)
    else if k = 1 then (l.isEmpty && mayD d, c + 1)
    else if n = 8 ∨ noD d = false ∨ mayA k l.length = false then (false, c + 1)
    else goL l (n + 1) (c + 1)
def goL : List R → Nat → Nat → Bool × Nat
  | [], _, c => (true, c)
  | x :: l, n, c => if (goX x n c).1 = true then goL l n (goX x n c).2 else (false, (goX x n c).2)
end
mutual
theorem goX_yes : ∀ (x : R) (n c : Nat), n ≤ 8 → (goX x n c).1 = true → Rich.part x = true ∧ (goX x n c).2 = c + count x ∧ c + count x ≤ 24 ∧ Rich.deep x + n ≤ 8
  | .mk k d l, n, c, hn, h => by
    rw [goX] at h ⊢
    by_cases h0 : 24 < c + 1
    · rw [if_pos h0] at h; cases h
    · rw [if_neg h0] at h ⊢
      by_cases hk : k = 1
      · rw [if_pos hk] at h ⊢
        subst hk
        simp only [Bool.and_eq_true] at h
        have hl : l = [] := List.isEmpty_iff.1 h.1
        subst hl
        exact ⟨part_atom.2 ⟨h.2, rfl⟩, by rw [count, counts], by rw [count, counts]; omega, by rw [Rich.deep, if_pos rfl]; omega⟩
      · rw [if_neg hk] at h ⊢
        by_cases h1 : n = 8 ∨ noD d = false ∨ mayA k l.length = false
        · rw [if_pos h1] at h; cases h
        · rw [if_neg h1] at h ⊢
          obtain ⟨g1, g2, g3, g4⟩ := goL_yes l (n + 1) (c + 1) (by omega) (by omega) h
          have hl := counts_len l
          have hd : noD d = true := by
            cases hd : noD d with
            | true => rfl
            | false => exact absurd (.inr (.inl hd)) h1
          have ha : okN k l.length = true := by
            rw [← ahead_ok (by omega)]
            cases ha : mayA k l.length with
            | true => exact ha
            | false => exact absurd (.inr (.inr ha)) h1
          refine ⟨(part_other hk).2 ⟨ha, g1, noD_iff.1 hd⟩, by rw [count]; omega, by rw [count]; omega, by rw [Rich.deep, if_neg hk]; omega⟩
theorem goL_yes : ∀ (l : List R) (n c : Nat), n ≤ 8 → c ≤ 24 → (goL l n c).1 = true → allP l = true ∧ (goL l n c).2 = c + counts l ∧ c + counts l ≤ 24 ∧ deeps l + n ≤ 8
  | [], n, c, hn, hc, _ => by
    rw [goL, allP, counts, deeps]
    exact ⟨rfl, rfl, by omega, by omega⟩
  | x :: l, n, c, hn, hc, h => by
    rw [goL] at h ⊢
    by_cases hx : (goX x n c).1 = true
    · rw [if_pos hx] at h ⊢
      obtain ⟨g1, g2, g3, g4⟩ := goX_yes x n c hn hx
      obtain ⟨k1, k2, k3, k4⟩ := goL_yes l n _ hn (by omega) h
      rw [allP, counts, deeps, g1, k1]
      exact ⟨rfl, by omega, by omega, by omega⟩
    · rw [if_neg hx] at h; cases h
end
mutual
theorem goX_of : ∀ (x : R) (n c : Nat), Rich.part x = true → c + count x ≤ 24 → Rich.deep x + n ≤ 8 → (goX x n c).1 = true
  | .mk k d l, n, c, hp, hc, hd => by
    rw [goX]
    rw [count] at hc
    rw [if_neg (by omega)]
    by_cases hk : k = 1
    · subst hk
      obtain ⟨g1, rfl⟩ := part_atom.1 hp
      rw [if_pos rfl, g1]; rfl
    · rw [if_neg hk]
      obtain ⟨g1, g2, g3⟩ := (part_other hk).1 hp
      rw [Rich.deep, if_neg hk] at hd
      have hl := counts_len l
      have ha : mayA k l.length = true := by unfold mayA; rw [ahead_ok (by omega)]; exact g1
      rw [if_neg (by
        rintro (h | h | h)
        · omega
        · rw [noD_iff.2 g3] at h; cases h
        · rw [ha] at h; cases h)]
      exact goL_of l (n + 1) (c + 1) g2 (by omega) (by omega)
theorem goL_of : ∀ (l : List R) (n c : Nat), allP l = true → c + counts l ≤ 24 → deeps l + n ≤ 8 → (goL l n c).1 = true
  | [], n, c, _, _, _ => by rw [goL]
  | x :: l, n, c, hp, hc, hd => by
    rw [counts] at hc
    rw [deeps] at hd
    obtain ⟨p1, p2⟩ := allP_cons.1 hp
    have h1 := goX_of x n c p1 (by omega) (by omega)
    have h2 := (goX_yes x n c (by omega) h1).2.1
    rw [goL, if_pos h1]
    exact goL_of l n _ p2 (by omega) (by omega)
end
theorem goX_whole (x : R) : (goX x 0 0).1 = whole x := by
  rw [Bool.eq_iff_iff, whole_iff]
  constructor
  · intro h
    obtain ⟨h1, _, h3, h4⟩ := goX_yes x 0 0 (by omega) h
    exact ⟨h1, by omega, by omega⟩
  · rintro ⟨h1, h2, h3⟩
    exact goX_of x 0 0 h1 (by omega) (by omega)
theorem goL_snoc : ∀ (l : List R) (x : R) (n c : Nat), goL (l ++ [x]) n c = if (goL l n c).1 = true then goX x n (goL l n c).2 else goL l n c
  | [], x, n, c => by
    rw [List.nil_append, goL, goL, goL]
    simp only [if_true]
    by_cases h : (goX x n c).1 = true
    · rw [if_pos h]; exact Prod.ext h.symm rfl
    · rw [if_neg h]; exact Prod.ext (by simpa using h) rfl
  | y :: l, x, n, c => by
    rw [List.cons_append, goL, goL]
    by_cases h : (goX y n c).1 = true
    · rw [if_pos h, if_pos h]; exact goL_snoc l x n _
    · rw [if_neg h, if_neg h]; rfl
theorem goL_take {l : List R} {i : Nat} {x : R} (hx : l[i]? = some x) (n c : Nat) (c1 : Nat) (h : goL (l.take i) n c = (true, c1)) : goL (l.take (i + 1)) n c = goX x n c1 := by
  rw [List.take_add_one, hx]
  show goL (l.take i ++ [x]) n c = _
  rw [goL_snoc, h]
  rfl
theorem goL_fail : ∀ {l : List R} {i : Nat} {n c c1 : Nat}, goL (l.take i) n c = (false, c1) → goL l n c = (false, c1)
  | [], _, _, _, _, h => by rw [List.take_nil] at h; exact h
  | x :: l, 0, n, c, c1, h => by rw [List.take_zero, goL] at h; cases h
  | x :: l, i + 1, n, c, c1, h => by
    rw [List.take_succ_cons, goL] at h
    rw [goL]
    by_cases hx : (goX x n c).1 = true
    · rw [if_pos hx] at h ⊢; exact goL_fail h
    · rw [if_neg hx] at h ⊢; exact h
theorem goX_few (x : R) (n c : Nat) (hn : n ≤ 8) (h : (goX x n c).1 = true) : (goX x n c).2 ≤ 24 := by
  obtain ⟨_, h2, h3, _⟩ := goX_yes x n c hn h
  omega
end Rich
end Go.Proofs.YtoebokgpdkklmaaGreatDoor

namespace Go.Proofs.YtoebokgpdkklmaaGreatDoor
namespace Rich
open Dep Lex

/-- How many words a plain dependency has that begins here. -/
def psize (ws : List Wd) : Nat := if isOp (textW ws.tail) = true then min ws.length 3 else 1
theorem isOp_nil : isOp [] = false := noOp_nil
theorem atom_cut (w : List UInt8) (p n : Nat) (rest : List Wd) : atomF w p n rest = finF ((((w, p) :: rest).take (psize ((w, p) :: rest))).map Prod.fst) p n (((w, p) :: rest).drop (psize ((w, p) :: rest))) := by
  unfold atomF psize
  rw [List.tail_cons]
  cases h : isOp (textW rest) with
  | false => simp
  | true =>
    simp only [if_true]
    match rest, h with
    | [], h => rw [show textW [] = [] from rfl, isOp_nil] at h; cases h
    | [(t, a)], _ => rfl
    | (t, a) :: (v, b) :: r2, _ =>
      have e : min ((w, p) :: (t, a) :: (v, b) :: r2).length 3 = 3 := by simp
      rw [e]
      rfl
theorem psize_pos (ws : List Wd) (h : ws ≠ []) : 1 ≤ psize ws ∧ psize ws ≤ ws.length ∧ psize ws ≤ 3 := by
  have : 1 ≤ ws.length := by cases ws with | nil => exact absurd rfl h | cons => simp
  unfold psize
  split <;> omega
/-- Where the loop over the Args stands. -/
def contF (e f o k : Nat) (c : List R) (n : Nat) (ws : List Wd) : Res :=
  if 2 ≤ c.length ∧ textW ws = [41] then .ok (.mk k zD c, n, ws.tail)
  else if aheadW k c.length ≠ [] ∧ textW ws = aheadW k c.length then moreF e f o k c n ws
  else .error (placeW e ws, 4)
theorem ahead_one {k : Nat} (h : 2 ≤ k ∧ k ≤ 7) : aheadW k 1 = wordK k ∧ wordK k ≠ [] := by
  have : k = 2 ∨ k = 3 ∨ k = 4 ∨ k = 5 ∨ k = 6 ∨ k = 7 := by omega
  rcases this with rfl | rfl | rfl | rfl | rfl | rfl <;> decide
theorem cont_first (e f o n : Nat) (a : R) (ws : List Wd) :
    (if kindW (textW ws) = 0 then .error (placeW e ws, 4) else moreF e f o (kindW (textW ws)) [a] n ws) = contF e f o (kindW (textW ws)) [a] n ws := by
  unfold contF
  rw [if_neg (show ¬ (2 ≤ [a].length ∧ textW ws = [41]) by simp)]
  show _ = if aheadW _ 1 ≠ [] ∧ textW ws = aheadW _ 1 then _ else _
  by_cases h : kindW (textW ws) = 0
  · rw [if_pos h, h]
    rw [if_neg (by rintro ⟨h1, _⟩; exact h1 rfl)]
  · obtain ⟨h1, h2, h3⟩ := kindW_some h
    obtain ⟨g1, g2⟩ := ahead_one ⟨h1, h2⟩
    rw [if_neg h, if_pos ⟨by rw [g1]; exact g2, by rw [g1, h3]⟩]
theorem more_ahead {k m : Nat} {w : List UInt8} (hk : 2 ≤ k ∧ k ≤ 7) (h2 : 2 ≤ m) (h24 : m < 24) : moreW k m w = true ↔ aheadW k m ≠ [] ∧ w = aheadW k m := by
  obtain ⟨a, b⟩ := hk
  have : k = 2 ∨ k = 3 ∨ k = 4 ∨ k = 5 ∨ k = 6 ∨ k = 7 := by omega
  rcases this with rfl | rfl | rfl | rfl | rfl | rfl
  all_goals
    unfold moreW aheadW
    simp only [mostK, furK, wordK, wElse, Bool.or_eq_true, Bool.and_eq_true, decide_eq_true_eq]
  case inl | inr.inl | inr.inr.inr.inr.inl =>
    rw [if_neg (by omega), if_neg (by omega)]
    simp
  case inr.inr.inl | inr.inr.inr.inl =>
    by_cases h3 : m = 2
    · subst h3; simp; try exact decide_eq_true_iff
    · rw [if_pos (by omega)]; simp; omega
  case inr.inr.inr.inr.inr =>
    rw [if_pos (by omega)]; simp
theorem read_group (e f o n p : Nat) (rest : List Wd) (ho : o ≠ 8) (hn : n + 1 ≤ 24) :
    readF e (f + 1) o n (([40], p) :: rest) = (match readF e f (o + 1) (n + 1) rest with | .error x => .error x | .ok (a, n2, ws2) => contF e f (o + 1) (kindW (textW ws2)) [a] n2 ws2) := by
  rw [readF, if_neg (by decide), if_neg (by omega), if_neg (by omega), if_neg (by decide)]
  cases h : readF e f (o + 1) (n + 1) rest with
  | error x => rfl
  | ok r =>
    obtain ⟨a, n2, ws2⟩ := r
    simp only
    exact cont_first e f (o + 1) n2 a ws2
theorem read_deep (e f n p : Nat) (rest : List Wd) : readF e (f + 1) 8 n (([40], p) :: rest) = .error (p, 21) := by
  rw [readF, if_neg (by decide), if_pos ⟨rfl, rfl⟩]
theorem read_many (e f o n p : Nat) (w : List UInt8) (rest : List Wd) (h1 : w ≠ []) (h2 : w ≠ [41]) (h3 : w = [40] → o ≠ 8) (hn : 24 < n + 1) : readF e (f + 1) o n ((w, p) :: rest) = .error (p, 40) := by
  rw [readF, if_neg (by rintro (h | h); exact h1 h; exact h2 h), if_neg (by rintro ⟨h, h'⟩; exact h3 h h'), if_pos hn]
theorem read_plain (e f o n p : Nat) (w : List UInt8) (rest : List Wd) (h1 : w ≠ []) (h2 : w ≠ [41]) (h3 : w ≠ [40]) (hn : n + 1 ≤ 24) :
    readF e (f + 1) o n ((w, p) :: rest) = finF ((((w, p) :: rest).take (psize ((w, p) :: rest))).map Prod.fst) p (n + 1) (((w, p) :: rest).drop (psize ((w, p) :: rest))) := by
  rw [readF, if_neg (by rintro (h | h); exact h1 h; exact h2 h), if_neg (by rintro ⟨h, _⟩; exact h3 h), if_neg (by omega), if_pos h3, atom_cut]
theorem read_not (e f o n : Nat) (ws : List Wd) (h : textW ws = [] ∨ textW ws = [41]) : readF e (f + 1) o n ws = .error (placeW e ws, 4) := by
  match ws with
  | [] => rw [readF]; rfl
  | (w, p) :: rest => rw [readF, if_pos (show w = [] ∨ w = [41] from h)]; rfl
theorem read_less {e f o n : Nat} {ws : List Wd} {x : R} {n2 : Nat} {rest : List Wd} (h : readF e f o n ws = .ok (x, n2, rest)) (ho : o ≤ 8) : rest.length < ws.length ∧ n < n2 ∧ n2 ≤ 24 ∧ (∃ a, ws = a ++ rest) ∧ x.kind < 256 ∧ x.dep.op < 256 := by
  obtain ⟨ps, h1, h2, h3, h4, h5, h6⟩ := (read_back f).1 e o n ws x n2 rest h ho
  have hne : wordsR x ≠ [] := by
    obtain ⟨k, d, l⟩ := x
    rw [wordsR]
    split
    · exact Dep.words_ne d
    · simp
  have hp : 0 < ps.length := by
    cases ps with
    | nil => exact absurd h2.symm hne
    | cons => simp
  have hc := Rich.count_pos x
  refine ⟨by rw [h1]; simp; omega, by omega, h5, ⟨ps, h1⟩, ?_, ?_⟩
  · obtain ⟨k, d, l⟩ := x
    by_cases hk : k = 1
    · subst hk; show 1 < 256; omega
    · have := okN_kind ((part_other hk).1 h3).1
      show k < 256; omega
  · obtain ⟨k, d, l⟩ := x
    by_cases hk : k = 1
    · subst hk
      have := (part_atom.1 h3).1
      by_cases h0 : d.op = 0
      · show d.op < 256; omega
      · have := (Rich.may_ops this h0).1
        have h8 : d.op < 256 := by
          by_cases h9 : d.op < 256
          · exact h9
          · exfalso
            have : Span.mayO d.op = false := by unfold Span.mayO; simp; omega
            simp_all
        exact h8
    · rw [((part_other hk).1 h3).2.2]; show 0 < 256; omega
theorem cont_more (e f o k n : Nat) (c : List R) (ws : List Wd) (hk : 2 ≤ k ∧ k ≤ 7) (h1 : 1 ≤ c.length) (hcn : c.length + 1 ≤ n) (ho : o ≤ 8) :
    moreF e (f + 1) o k c n ws = (match readF e f o n ws.tail with | .error x => .error x | .ok (b, n2, ws2) => contF e f o k (c ++ [b]) n2 ws2) := by
  rw [moreF]
  cases h : readF e f o n ws.tail with
  | error x => rfl
  | ok r =>
    obtain ⟨b, n2, ws2⟩ := r
    have h24 : c.length + 1 < 24 := by
      have := read_less h ho
      omega
    simp only
    unfold contF
    have hl : (c ++ [b]).length = c.length + 1 := by simp
    rw [hl]
    by_cases h41 : textW ws2 = [41]
    · rw [if_pos h41, if_pos ⟨by omega, h41⟩]
    · rw [if_neg h41]
      rw [if_neg (show ¬ (2 ≤ c.length + 1 ∧ textW ws2 = [41]) from fun h => h41 h.2)]
      by_cases hm : moreW k (c.length + 1) (textW ws2) = true
      · rw [if_pos hm, if_pos ((more_ahead hk (by omega) h24).1 hm)]
      · rw [if_neg hm, if_neg (fun h => hm ((more_ahead hk (by omega) h24).2 h))]
theorem ahead_kind {k m : Nat} (h1 : 1 ≤ m) (h : aheadW k m ≠ []) : 2 ≤ k ∧ k ≤ 7 := by
  unfold aheadW at h
  by_cases hk : 2 ≤ k ∧ k ≤ 7
  · exact hk
  · exfalso
    apply h
    have h0 : 8 ≤ k ∨ mostK k = 0 := by
      by_cases h8 : 8 ≤ k
      · exact .inl h8
      · have : k = 0 ∨ k = 1 := by omega
        rcases this with rfl | rfl <;> exact .inr rfl
    rw [if_pos (by omega)]
theorem kindW_lt (w : List UInt8) : kindW w ≤ 7 := by
  by_cases h : kindW w = 0
  · omega
  · exact (kindW_some h).2.1
end Rich
end Go.Proofs.YtoebokgpdkklmaaGreatDoor

namespace Go.Proofs.YtoebokgpdkklmaaGreatDoor
open Go.RowKit Rich

theorem aheadP_int (k i : Nat) (z : Int) (hz : z = (i : Int)) (hk : k < 256) (w : World) (hW : RowsW w) :
    Calls Tryz.prog 31 #[.int .u8 (k : Int), .int .i64 z] w fun e w' => e = .returned (.string ⟨(aheadW k i).toArray⟩) ∧ w' = w := by
  subst hz
  exact aheadP_walk k i hk w hW
set_option maxRecDepth 100000 in
set_option maxHeartbeats 2000000 in
theorem mayArgs_walk (k n : Nat) (b : Bool) (hk : k < 256) (hn : n ≤ maxLen) (hb : (decide (2 ≤ n) && decide (aheadW k (n - 1) ≠ [])) = b) (w : World) (hW : RowsW w) :
    Calls Tryz.prog 38 #[.int .u8 (k : Int), .int .i64 (n : Int)] w fun e w' => e = .returned (.bool b) ∧ w' = w := by
  unfold maxLen at hn
  by_cases h2 : 2 ≤ n
  · have h2' : (2 : Int) ≤ (n : Int) := by omega
    have AC := fun z W hz (hw : RowsW W) => aheadP_int k (n - 1) z hz hk W hw
    have hE : (aheadW k (n - 1)).isEmpty = decide (aheadW k (n - 1) = []) := by cases aheadW k (n - 1) <;> rfl
    have HF := Lib.hid (show b = !(aheadW k (n - 1)).isEmpty by rw [← hb, decide_eq_true h2, hE]; simp)
    have HW := Lib.hid hW
    have hz : ((n : Int) - 1) = ((n - 1 : Nat) : Int) := by omega
    have HZ := Lib.hid hz
    clear hz h2 hW hb hE
    generalize aheadW k (n - 1) = a at *
    go_enter Tryz.func38, Tryz.ntmps38
    go_wp2_with (first
      | (go_at_call 31; refine (AC _ _ HZ.out HW.out).mono ?_; rintro e w1 ⟨rfl, rfl⟩)
      | fail)
    go_ret
    exact ⟨by rw [HF.out]; rfl, rfl⟩
  · have HF := Lib.hid (show b = false by rw [← hb, decide_eq_false h2]; rfl)
    have h2' : (n : Int) < 2 := by omega
    clear h2 hb
    go_enter Tryz.func38, Tryz.ntmps38
    go_wp2_with fail
    go_ret
    exact ⟨by rw [HF.out]; rfl, rfl⟩
/-- No word among the first i Kinds' is this one. -/
def noKind (s : List UInt8) (i : Nat) : Prop := ∀ j, j < i → wordK j ≠ s
theorem kind_found {s : List UInt8} {i : Nat} (hi : i < 8) (h : noKind s i) (he : wordK i = s) : kindW s = i := by
  subst he
  have : i = 0 ∨ i = 1 ∨ i = 2 ∨ i = 3 ∨ i = 4 ∨ i = 5 ∨ i = 6 ∨ i = 7 := by omega
  rcases this with rfl | rfl | rfl | rfl | rfl | rfl | rfl | rfl
  · decide
  · exact absurd rfl (h 0 (by omega))
  all_goals decide
theorem kind_none {s : List UInt8} (h : noKind s 8) : kindW s = 0 := by
  unfold kindW
  rw [if_neg (fun e => h 2 (by omega) e.symm), if_neg (fun e => h 3 (by omega) e.symm), if_neg (fun e => h 4 (by omega) e.symm), if_neg (fun e => h 5 (by omega) e.symm), if_neg (fun e => h 6 (by omega) e.symm), if_neg (fun e => h 7 (by omega) e.symm)]
theorem rows_index : ∀ (i : Nat) (_ : i < 8) (W : World), (Instr.index 89 rowsV (.int .i64 (i : Int))).run Tryz.prog W = .ok (rowV i) W
  | 0, _, W => by kernel_rfl
  | 1, _, W => by kernel_rfl
  | 2, _, W => by kernel_rfl
  | 3, _, W => by kernel_rfl
  | 4, _, W => by kernel_rfl
  | 5, _, W => by kernel_rfl
  | 6, _, W => by kernel_rfl
  | 7, _, W => by kernel_rfl
theorem rows_range {W : World} (h : RowsW W) : W.rangeAt 0 0 rowsL := fun j v hj => by
    rw [Nat.zero_add]
    exact match j, hj with
    | 0, hj => by injection hj with hj; subst hj; exact h.at0 0 (by omega)
    | 1, hj => by injection hj with hj; subst hj; exact h.at1 0 (by omega)
    | 2, hj => by injection hj with hj; subst hj; exact h.at2 0 (by omega)
    | 3, hj => by injection hj with hj; subst hj; exact h.at0 1 (by omega)
    | 4, hj => by injection hj with hj; subst hj; exact h.at1 1 (by omega)
    | 5, hj => by injection hj with hj; subst hj; exact h.at2 1 (by omega)
    | 6, hj => by injection hj with hj; subst hj; exact h.at0 2 (by omega)
    | 7, hj => by injection hj with hj; subst hj; exact h.at1 2 (by omega)
    | 8, hj => by injection hj with hj; subst hj; exact h.at2 2 (by omega)
    | 9, hj => by injection hj with hj; subst hj; exact h.at0 3 (by omega)
    | 10, hj => by injection hj with hj; subst hj; exact h.at1 3 (by omega)
    | 11, hj => by injection hj with hj; subst hj; exact h.at2 3 (by omega)
    | 12, hj => by injection hj with hj; subst hj; exact h.at0 4 (by omega)
    | 13, hj => by injection hj with hj; subst hj; exact h.at1 4 (by omega)
    | 14, hj => by injection hj with hj; subst hj; exact h.at2 4 (by omega)
    | 15, hj => by injection hj with hj; subst hj; exact h.at0 5 (by omega)
    | 16, hj => by injection hj with hj; subst hj; exact h.at1 5 (by omega)
    | 17, hj => by injection hj with hj; subst hj; exact h.at2 5 (by omega)
    | 18, hj => by injection hj with hj; subst hj; exact h.at0 6 (by omega)
    | 19, hj => by injection hj with hj; subst hj; exact h.at1 6 (by omega)
    | 20, hj => by injection hj with hj; subst hj; exact h.at2 6 (by omega)
    | 21, hj => by injection hj with hj; subst hj; exact h.at0 7 (by omega)
    | 22, hj => by injection hj with hj; subst hj; exact h.at1 7 (by omega)
    | 23, hj => by injection hj with hj; subst hj; exact h.at2 7 (by omega)
    | j + 24, hj => by simp [rowsL] at hj
theorem kind_lt (i : Nat) (hi : i < 8) : IntKind.u8.wrap (i : Int) = (i : Int) := by
  have : i = 0 ∨ i = 1 ∨ i = 2 ∨ i = 3 ∨ i = 4 ∨ i = 5 ∨ i = 6 ∨ i = 7 := by omega
  rcases this with rfl | rfl | rfl | rfl | rfl | rfl | rfl | rfl <;> decide
theorem wordB_eq (i : Nat) (s : ByteArray) : ((wordB i).toList == s.toList) = decide (wordK i = s.data.toList) := by
  rw [ByteArray.toList_eq, ByteArray.toList_eq, Bool.eq_iff_iff]
  simp [wordB]
set_option maxRecDepth 100000 in
set_option maxHeartbeats 2000000 in
theorem kindP_walk (s : ByteArray) (w : World) (hW : RowsW w) :
    Calls Tryz.prog 76 #[.string s] w fun e w' => e = .returned (.int .u8 (kindW s.data.toList : Int)) ∧ Kept (fun _ => False) w w' := by
  have HI := Lib.hid rows_index
  have HG := Lib.hid (rows_range hW)
  have HN0 := Lib.hid (show (Tryz.prog.info? 89).map (·.size) = some rowsL.length by kernel_rfl)
  clear hW
  unfold rowsV at HI
  generalize rowsL = rl at *
  go_enter Tryz.func76, Tryz.ntmps76
  go_wp2_with (refine wpList_load_mid rfl 89 _ rfl 0 0 rfl rl _ HG.out Tryz.underlying89 rfl HN0.out ?_)
  go_loopw [6] (fun v6 wr => ∃ i : Nat, v6 = .int .i64 (i : Int) ∧ i ≤ 8 ∧ Hid (noKind s.data.toList i) ∧ Hid (Kept (fun _ => False) w wr)) (fun v6 _ => 8 - (intOf v6).toNat)
  case atStart => exact ⟨0, rfl, Nat.zero_le _, Lib.hid (fun j hj => by omega), Lib.hid (Kept.refl _ _)⟩
  case round =>
    obtain ⟨i, rfl, hi, HN, HK⟩ := hrel
    by_cases hlt : i < 8
    · have hltI : (i : Int) < 8 := by omega
      have hx := HI.out i hlt
      have hwr := kind_lt i hlt
      have HQ := Lib.hid (wordB_eq i s)
      by_cases he : wordK i = s.data.toList
      · have hb : ((wordB i).toList == s.toList) = true := by rw [HQ.out]; exact decide_eq_true he
        have HF := Lib.hid (kind_found hlt HN.out he)
        unfold rowV at hx
        generalize wordB i = wb at *
        generalize furB i = fb at *
        generalize (mostK i : Int) = mb at *
        clear hlt he
        go_wp2_with fail
        go_ret
        exact ⟨by rw [HF.out]; rfl, HK.out.alloc _⟩
      · have hb : ((wordB i).toList == s.toList) = false := by rw [HQ.out]; exact decide_eq_false he
        have HF := Lib.hid (show noKind s.data.toList (i + 1) from fun j hj => by
          by_cases hji : j = i
          · rw [hji]; exact he
          · exact HN.out j (by omega))
        unfold rowV at hx
        generalize wordB i = wb at *
        generalize furB i = fb at *
        generalize (mostK i : Int) = mb at *
        clear hlt he
        go_wp2_with fail
        go_roundw
        case rel => exact ⟨i + 1, by go_num, by omega, HF, Lib.hid (HK.out.alloc _)⟩
        case measure => simp [intOf]; omega
    · obtain rfl : i = 8 := by omega
      have HF := Lib.hid (kind_none HN.out)
      go_wp2_with fail
      go_ret
      exact ⟨by rw [HF.out]; rfl, HK.out⟩
end Go.Proofs.YtoebokgpdkklmaaGreatDoor

namespace Go.Proofs.YtoebokgpdkklmaaGreatDoor
open Go.RowKit Lex

/-- Words as cells. -/
def cellsW : List Wd → List Value
  | [] => []
  | p :: l => .string ⟨p.1.toArray⟩ :: .int .i64 (p.2 : Int) :: cellsW l
theorem cellsW_app : ∀ a b : List Wd, cellsW (a ++ b) = cellsW a ++ cellsW b
  | [], _ => rfl
  | p :: a, b => by simp [cellsW, cellsW_app a b]
theorem cellsW_len : ∀ a : List Wd, (cellsW a).length = a.length * 2
  | [] => rfl
  | p :: a => by simp [cellsW, cellsW_len a]; omega
theorem cellsW_one : ∀ a : List Wd, ∀ u ∈ cellsW a, u.oneCell' = true
  | [], u, h => by simp [cellsW] at h
  | p :: a, u, h => by
    simp only [cellsW, List.mem_cons] at h
    rcases h with h | h | h
    · rw [h]; rfl
    · rw [h]; rfl
    · exact cellsW_one a u h
theorem cellsW_at : ∀ (l : List Wd) (i : Nat) (p : Wd), l[i]? = some p → (cellsW l)[i * 2]? = some (.string ⟨p.1.toArray⟩) ∧ (cellsW l)[i * 2 + 1]? = some (.int .i64 (p.2 : Int))
  | [], _, _, h => by simp at h
  | e :: l, 0, d, h => by
    injection h with h
    subst h
    exact ⟨rfl, rfl⟩
  | e :: l, i + 1, d, h => by
    have := cellsW_at l i d (by simpa using h)
    have e0 : (i + 1) * 2 = i * 2 + 1 + 1 := by omega
    rw [e0]
    simpa [cellsW] using this
theorem cellsW_set (done : List Wd) (t t' : List UInt8) (q : Nat) : (cellsW (done ++ [(t, q)])).set (done.length * 2) (.string ⟨t'.toArray⟩) = cellsW (done ++ [(t', q)]) := by
  rw [cellsW_app, cellsW_app, List.set_append_right _ _ (by rw [cellsW_len]; exact Nat.le_refl _), cellsW_len, Nat.sub_self]
  rfl
theorem new_word (W : World) (g : Nat) (hg : g = W.heap.size) (t : TypeId) (p : Wd) :
    ∀ (j : Nat) (u : Value), (cellsW [p])[j]? = some u → (W.alloc (.cells #[.string ⟨p.1.toArray⟩, .int .i64 (p.2 : Int)] t)).cell? ((⟨g, 0, none⟩ : Addr).add j) = some u := by
  intro j u hj
  subst hg
  match j, hj with
  | 0, hj => simp [cellsW] at hj; subst hj; simp [Addr.add]
  | 1, hj => simp [cellsW] at hj; subst hj; simp [Addr.add]
theorem words_push {w wr w1 : World} {ty : TypeId} {v v' : Value} {done : List Wd} {p : Wd} {o o' : Obj} {n : Nat} {cs : List Value} (hkp : Kept (fun _ => False) w wr) (hown : wr.ownsRow w.heap.size ty 2 v done.length (cellsW done))
    (h : w1.ownsRow w.heap.size ty 2 v' n cs) (hn : n = done.length + 1) (hc : cs = cellsW done ++ cellsW [p]) (hg : ((wr.alloc o).alloc o').grownBy w1 v.ownBlock) :
    w1.ownsRow w.heap.size ty 2 v' (done ++ [p]).length (cellsW (done ++ [p])) ∧ Kept (fun _ => False) w w1 :=
  ⟨by subst hn; subst hc; rw [cellsW_app, List.length_append]; exact h, ((hkp.alloc o).alloc o').grown hg (fun i hi => .inr (hown.lt i hi).1)⟩

theorem drop_here {α : Type} {s : List α} {i : Nat} {b : α} (hb : s[i]? = some b) : s.drop i = b :: s.drop (i + 1) := by
  have hi : i < s.length := (List.getElem?_eq_some_iff.1 hb).1
  rw [List.drop_eq_getElem_cons hi, (List.getElem?_eq_some_iff.1 hb).2]
theorem app_list7 (x y : ByteArray) : (x ++ y).data.toList = x.data.toList ++ y.data.toList := by simp [ByteArray.data_append]
def Prev7 (xs : List ByteArray) (i : Nat) (y : Option (List UInt8)) : Prop := (i = 0 ∧ y = none) ∨ ∃ j z, i = j + 1 ∧ xs[j]? = some z ∧ y = some z.data.toList
abbrev bytesL (xs : List ByteArray) : List (List UInt8) := xs.map (·.data.toList)
theorem eq_lit (x : ByteArray) (l : List UInt8) : (x.toList == l) = decide (x.data.toList = l) := by
  rw [ByteArray.toList_eq]
  by_cases h : x.data.toList = l
  · simp [h]
  · rw [decide_eq_false h, beq_eq_false_iff_ne]
    exact h
/-- A slice of words; of whole numbers. -/
def WdS (w : World) (v : Value) (ws : List Wd) : Prop := ∃ ao cp, v = .slice ao ws.length cp ∧ ∀ (j : Nat) p, ws[j]? = some p → ∃ g, ao = some ⟨g, 0, none⟩ ∧ w.cell? ⟨g, j * 2, none⟩ = some (.string ⟨p.1.toArray⟩) ∧ w.cell? ⟨g, j * 2 + 1, none⟩ = some (.int .i64 (p.2 : Int)) ∧ g < w.heap.size
theorem own_words {w : World} {base : Nat} {e : TypeId} {v : Value} {l : List Wd} (h : w.ownsRow base e 2 v l.length (cellsW l)) : WdS w v l := by
  rcases h.2 with ⟨hv, hn⟩ | ⟨g, cap, cur, rfl, _⟩
  · exact ⟨none, 0, by rw [hv, hn], fun j p hj => by have := (List.getElem?_eq_some_iff.1 hj).1; omega⟩
  · refine ⟨_, cap, rfl, fun j p hj => ⟨g, rfl, ?_⟩⟩
    obtain ⟨c0, c1⟩ := cellsW_at l j p hj
    exact ⟨(own_cell h c0).1, (own_cell h c1).1, (own_cell h c0).2⟩
/-- Such a slice, with its room. -/
def WdC (w : World) (v : Value) (ws : List Wd) : Prop := WdS w v ws ∧ ∃ a n c, v = .slice a n c ∧ n ≤ c
theorem own_wordsC {w : World} {base : Nat} {e : TypeId} {v : Value} {l : List Wd} (h : w.ownsRow base e 2 v l.length (cellsW l)) : WdC w v l := by
  refine ⟨own_words h, ?_⟩
  rcases h.2 with ⟨hv, hn⟩ | ⟨g, cap, cur, hv, _, _, hc, _⟩
  · exact ⟨none, 0, 0, hv, Nat.le_refl _⟩
  · exact ⟨_, _, _, hv, hc⟩
theorem nil_wordsC (w : World) : WdC w (.slice none 0 0) [] := ⟨⟨none, 0, rfl, fun j p hj => by simp at hj⟩, none, 0, 0, rfl, Nat.le_refl _⟩
theorem WdS.kept {w w' : World} {v : Value} {ws : List Wd} (h : WdS w v ws) (hk : Kept (fun _ => False) w w') : WdS w' v ws := by
  obtain ⟨ao, cp, e, h⟩ := h
  refine ⟨ao, cp, e, fun j p hj => ?_⟩
  obtain ⟨g, e1, c0, c1, hl⟩ := h j p hj
  exact ⟨g, e1, (hk.cell (p := ⟨g, j * 2, none⟩) hl (fun h => h)).trans c0, (hk.cell (p := ⟨g, j * 2 + 1, none⟩) hl (fun h => h)).trans c1, Nat.lt_of_lt_of_le hl hk.size⟩
def IntS (w : World) (v : Value) (zs : List Int) : Prop := ∃ ao cp, v = .slice ao zs.length cp ∧ ∀ j z, zs[j]? = some z → ∃ a : Addr, ao = some a ∧ w.cell? (a.add j) = some (.int .i64 z) ∧ a.block < w.heap.size
theorem IntS.kept {w w' : World} {v : Value} {zs : List Int} (h : IntS w v zs) (hk : Kept (fun _ => False) w w') : IntS w' v zs := by
  obtain ⟨ao, cp, e, h⟩ := h
  refine ⟨ao, cp, e, fun j z hj => ?_⟩
  obtain ⟨a, e1, c0, hl⟩ := h j z hj
  exact ⟨a, e1, (hk.cell (p := a.add j) (by rw [add_block]; exact hl) (fun h => h)).trans c0, Nat.lt_of_lt_of_le hl hk.size⟩
abbrev textsW (ws : List Wd) : List ByteArray := ws.map fun p => ⟨p.1.toArray⟩
abbrev placesW (ws : List Wd) : List Int := ws.map fun p => (p.2 : Int)
end Go.Proofs.YtoebokgpdkklmaaGreatDoor

namespace Go.Proofs.YtoebokgpdkklmaaGreatDoor
open Go.RowKit Go.Maps Span

/-- An entry of a map literal, laid. -/
theorem wpList_entry_own {H : Type} {P : Program} (w : World) {ops : Array Oper} {rest : List Oper} {o : Oper} {a : Act} {Q : Exit → Act → World → Prop}
    (hg : o.guard = none) (m x v : Operand) (t : TypeId) (hop : o.op = Op.insert t m x v)
    (k e : TypeId) (K : Keyed P k) (ht : P.underlying t = some (.map k e)) (R : Value → Option (DataW H × List MemPlace)) (b n : Nat) (D : DataW H)
    (hm : a.eval m = .map (some b)) (hown : w.ownsMap P k R b n D) (hn : n < maxLen) (key val : Value) (kl : Lit) (hx : a.eval x = key) (hv : a.eval v = val) (hkey : keyOf P k key = some kl)
    (d : DataW H) (ps : List MemPlace) (hval : R val = some (d, ps))
    (hK : ∀ w', w'.ownsMap P k R b (n + 1) (D.put kl d) → w.grownBy w' (some b) → wpList P ops Q rest (a.put o.dst undef) w') :
    wpList P ops Q (o :: rest) a w := by
  refine wpList_plain hg fun K2 hK2 => ?_
  obtain ⟨w2, hrun, h1, h2⟩ := hown.update K ht hn hkey hval
  unfold Oper.wp
  simp [execOp, hop, hm, hx, hv, hrun, Result.andThen]
  exact hK2 _ _ (hK w2 h1 h2)

theorem key_law : Keyed Tryz.prog 9 := string_keyed Tryz.underlying9
/-- The six texts, with their Ops. -/
def opsD : DataW Unit := .map [(.string [], .lit (.int .u8 0)), (.string [60], .lit (.int .u8 1)), (.string [60, 61], .lit (.int .u8 3)), (.string [61], .lit (.int .u8 2)), (.string [62], .lit (.int .u8 4)), (.string [62, 61], .lit (.int .u8 6))]
abbrev OpsAt (w : World) (b : Nat) : Prop := w.ownsMap Tryz.prog 9 (plainElem Tryz.prog 5) b 6 opsD
theorem ops_put : (((((((.map [] : DataW Unit).put (.string []) (.lit (.int .u8 0))).put (.string [60]) (.lit (.int .u8 1))).put (.string [61]) (.lit (.int .u8 2))).put (.string [62]) (.lit (.int .u8 4))).put (.string [60, 61]) (.lit (.int .u8 3))).put (.string [62, 61]) (.lit (.int .u8 6))) = opsD := by rfl
theorem key_of (l : ByteArray) (h : l.size ≤ maxLen) : keyOf Tryz.prog 9 (.string l) = some (.string l.data.toList) := Go.WideMaps.keyOf_string_mk Tryz.underlying9 h
theorem elem_of (n : Int) (h : (Lit.int .u8 n).wf = true) : plainElem (H := Unit) Tryz.prog 5 (.int .u8 n) = some (.lit (.int .u8 n), []) := plainElem_int Tryz.underlying5 h

set_option maxRecDepth 100000 in
theorem map_walk (w : World) : Calls Tryz.prog 81 #[] w fun e w' => e = .returned (.map (some w.heap.size)) ∧ OpsAt w' w.heap.size ∧ Kept (fun _ => False) w w' := by
  have hmm := @run_makeMap Tryz.prog
  have h0 := World.ownsMap_made (H := Unit) w Tryz.prog 9 (plainElem Tryz.prog 5)
  have hk0 := (Kept.refl (fun _ => False) w).alloc (.map #[] 0)
  have HO := Lib.hid h0
  have HK := Lib.hid hk0
  clear h0 hk0
  go_enter Tryz.func81, Tryz.ntmps81
  go_wp2_with (first
    | (refine wpList_entry_own _ rfl _ _ _ 111 rfl 9 5 key_law Tryz.underlying111 _ w.heap.size _ _ rfl HO.out (by decide) _ _ _ rfl rfl (key_of _ (by decide)) _ [] (elem_of _ (by decide)) ?_; intro w1 hown1 hg1; have HO := Lib.hid hown1; have HK := Lib.hid (Kept.grown HK.out hg1 (fun j hj => by cases hj; exact .inr (Nat.le_refl _))); clear hown1 hg1)
    | go_in)
  go_ret
  exact ⟨rfl, by have h := HO.out; rw [ops_put] at h; exact h, HK.out⟩
end Go.Proofs.YtoebokgpdkklmaaGreatDoor
