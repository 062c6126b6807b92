/-
  Rich dependencies (chapter 8): what is read, in the steps of a reader that goes on by words. Nothing of the program is named here. Small facts that both readers of layer 8 use. Nothing of the program is named here but its types. Parts of rich dependencies that were read or copied, and what may turn beside them. Nothing of the program is named here but its types. A region that draws its order, walked once, where its calls make memory but leave the old blocks alone. Nothing of the program is named here. A region that draws its order, each operation of which yields, in whatever order, a value of its own kind, of which the others keep what holds: one goal for each operation, none for the orders. Nothing of the program is named here. Conditions: as each theorem states.
-/
import Derived.Test.YtlagnebgoclaeaaGreatDoorK09
import Derived.Test.YtlagnebgoclaeaaGreatDoorK04
import Derived.Deep.QuietTactic
import Derived.BigQuiet
import Derived.RegionTactic
namespace Go.Proofs.YtlagnebgoclaeaaGreatDoor
namespace Rich
open Dep Lex

/-- How many words a plain dependency has that begins here. -/
def psize (ws : List Wd) : Nat := if isOp (textW ws.tail) = true then min ws.length 3 else 1
theorem isOp_nil : isOp [] = false := noOp_nil
theorem atom_cut (w : List UInt8) (p n : Nat) (rest : List Wd) : atomF w p n rest = finF ((((w, p) :: rest).take (psize ((w, p) :: rest))).map Prod.fst) p n (((w, p) :: rest).drop (psize ((w, p) :: rest))) := by
  unfold atomF psize
  rw [List.tail_cons]
  cases h : isOp (textW rest) with
  | false => simp
  | true =>
    simp only [if_true]
    match rest, h with
    | [], h => rw [show textW [] = [] from rfl, isOp_nil] at h; cases h
    | [(t, a)], _ => rfl
    | (t, a) :: (v, b) :: r2, _ =>
      have e : min ((w, p) :: (t, a) :: (v, b) :: r2).length 3 = 3 := by simp
      rw [e]
      rfl
theorem psize_pos (ws : List Wd) (h : ws ≠ []) : 1 ≤ psize ws ∧ psize ws ≤ ws.length ∧ psize ws ≤ 3 := by
  have : 1 ≤ ws.length := by cases ws with | nil => exact absurd rfl h | cons => simp
  unfold psize
  split <;> omega
/-- Where the loop over the Args stands. -/
def contF (e f o k : Nat) (c : List R) (n : Nat) (ws : List Wd) : Res :=
  if 2 ≤ c.length ∧ textW ws = [41] then .ok (.mk k zD c, n, ws.tail)
  else if aheadW k c.length ≠ [] ∧ textW ws = aheadW k c.length then moreF e f o k c n ws
  else .error (placeW e ws, 4)
theorem ahead_one {k : Nat} (h : 2 ≤ k ∧ k ≤ 7) : aheadW k 1 = wordK k ∧ wordK k ≠ [] := by
  have : k = 2 ∨ k = 3 ∨ k = 4 ∨ k = 5 ∨ k = 6 ∨ k = 7 := by omega
  rcases this with rfl | rfl | rfl | rfl | rfl | rfl <;> decide
theorem cont_first (e f o n : Nat) (a : R) (ws : List Wd) :
    (if kindW (textW ws) = 0 then .error (placeW e ws, 4) else moreF e f o (kindW (textW ws)) [a] n ws) = contF e f o (kindW (textW ws)) [a] n ws := by
  unfold contF
  rw [if_neg (show ¬ (2 ≤ [a].length ∧ textW ws = [41]) by simp)]
  show _ = if aheadW _ 1 ≠ [] ∧ textW ws = aheadW _ 1 then _ else _
  by_cases h : kindW (textW ws) = 0
  · rw [if_pos h, h]
    rw [if_neg (by rintro ⟨h1, _⟩; exact h1 rfl)]
  · obtain ⟨h1, h2, h3⟩ := kindW_some h
    obtain ⟨g1, g2⟩ := ahead_one ⟨h1, h2⟩
    rw [if_neg h, if_pos ⟨by rw [g1]; exact g2, by rw [g1, h3]⟩]
theorem more_ahead {k m : Nat} {w : List UInt8} (hk : 2 ≤ k ∧ k ≤ 7) (h2 : 2 ≤ m) (h24 : m < 24) : moreW k m w = true ↔ aheadW k m ≠ [] ∧ w = aheadW k m := by
  obtain ⟨a, b⟩ := hk
  have : k = 2 ∨ k = 3 ∨ k = 4 ∨ k = 5 ∨ k = 6 ∨ k = 7 := by omega
  rcases this with rfl | rfl | rfl | rfl | rfl | rfl
  all_goals
    unfold moreW aheadW
    simp only [mostK, furK, wordK, wElse, Bool.or_eq_true, Bool.and_eq_true, decide_eq_true_eq]
  case inl | inr.inl | inr.inr.inr.inr.inl =>
    rw [if_neg (by omega), if_neg (by omega)]
    simp
  case inr.inr.inl | inr.inr.inr.inl =>
    by_cases h3 : m = 2
    · subst h3; simp; try exact decide_eq_true_iff
    · rw [if_pos (by omega)]; simp; omega
  case inr.inr.inr.inr.inr =>
    rw [if_pos (by omega)]; simp
theorem read_group (e f o n p : Nat) (rest : List Wd) (ho : o ≠ 8) (hn : n + 1 ≤ 24) :
    readF e (f + 1) o n (([40], p) :: rest) = (match readF e f (o + 1) (n + 1) rest with | .error x => .error x | .ok (a, n2, ws2) => contF e f (o + 1) (kindW (textW ws2)) [a] n2 ws2) := by
  rw [readF, if_neg (by decide), if_neg (by omega), if_neg (by omega), if_neg (by decide)]
  cases h : readF e f (o + 1) (n + 1) rest with
  | error x => rfl
  | ok r =>
    obtain ⟨a, n2, ws2⟩ := r
    simp only
    exact cont_first e f (o + 1) n2 a ws2
theorem read_deep (e f n p : Nat) (rest : List Wd) : readF e (f + 1) 8 n (([40], p) :: rest) = .error (p, 21) := by
  rw [readF, if_neg (by decide), if_pos ⟨rfl, rfl⟩]
theorem read_many (e f o n p : Nat) (w : List UInt8) (rest : List Wd) (h1 : w ≠ []) (h2 : w ≠ [41]) (h3 : w = [40] → o ≠ 8) (hn : 24 < n + 1) : readF e (f + 1) o n ((w, p) :: rest) = .error (p, 40) := by
  rw [readF, if_neg (by rintro (h | h); exact h1 h; exact h2 h), if_neg (by rintro ⟨h, h'⟩; exact h3 h h'), if_pos hn]
theorem read_plain (e f o n p : Nat) (w : List UInt8) (rest : List Wd) (h1 : w ≠ []) (h2 : w ≠ [41]) (h3 : w ≠ [40]) (hn : n + 1 ≤ 24) :
    readF e (f + 1) o n ((w, p) :: rest) = finF ((((w, p) :: rest).take (psize ((w, p) :: rest))).map Prod.fst) p (n + 1) (((w, p) :: rest).drop (psize ((w, p) :: rest))) := by
  rw [readF, if_neg (by rintro (h | h); exact h1 h; exact h2 h), if_neg (by rintro ⟨h, _⟩; exact h3 h), if_neg (by omega), if_pos h3, atom_cut]
theorem read_not (e f o n : Nat) (ws : List Wd) (h : textW ws = [] ∨ textW ws = [41]) : readF e (f + 1) o n ws = .error (placeW e ws, 4) := by
  match ws with
  | [] => rw [readF]; rfl
  | (w, p) :: rest => rw [readF, if_pos (show w = [] ∨ w = [41] from h)]; rfl
theorem read_less {e f o n : Nat} {ws : List Wd} {x : R} {n2 : Nat} {rest : List Wd} (h : readF e f o n ws = .ok (x, n2, rest)) (ho : o ≤ 8) : rest.length < ws.length ∧ n < n2 ∧ n2 ≤ 24 ∧ (∃ a, ws = a ++ rest) ∧ x.kind < 256 ∧ x.dep.op < 256 := by
  obtain ⟨ps, h1, h2, h3, h4, h5, h6⟩ := (read_back f).1 e o n ws x n2 rest h ho
  have hne : wordsR x ≠ [] := by
    obtain ⟨k, d, l⟩ := x
    rw [wordsR]
    split
    · exact Dep.words_ne d
    · simp
  have hp : 0 < ps.length := by
    cases ps with
    | nil => exact absurd h2.symm hne
    | cons => simp
  have hc := Rich.count_pos x
  refine ⟨by rw [h1]; simp; omega, by omega, h5, ⟨ps, h1⟩, ?_, ?_⟩
  · obtain ⟨k, d, l⟩ := x
    by_cases hk : k = 1
    · subst hk; show 1 < 256; omega
    · have := okN_kind ((part_other hk).1 h3).1
      show k < 256; omega
  · obtain ⟨k, d, l⟩ := x
    by_cases hk : k = 1
    · subst hk
      have := (part_atom.1 h3).1
      by_cases h0 : d.op = 0
      · show d.op < 256; omega
      · have := (Rich.may_ops this h0).1
        have h8 : d.op < 256 := by
          by_cases h9 : d.op < 256
          · exact h9
          · exfalso
            have : Span.mayO d.op = false := by unfold Span.mayO; simp; omega
            simp_all
        exact h8
    · rw [((part_other hk).1 h3).2.2]; show 0 < 256; omega
theorem cont_more (e f o k n : Nat) (c : List R) (ws : List Wd) (hk : 2 ≤ k ∧ k ≤ 7) (h1 : 1 ≤ c.length) (hcn : c.length + 1 ≤ n) (ho : o ≤ 8) :
    moreF e (f + 1) o k c n ws = (match readF e f o n ws.tail with | .error x => .error x | .ok (b, n2, ws2) => contF e f o k (c ++ [b]) n2 ws2) := by
  rw [moreF]
  cases h : readF e f o n ws.tail with
  | error x => rfl
  | ok r =>
    obtain ⟨b, n2, ws2⟩ := r
    have h24 : c.length + 1 < 24 := by
      have := read_less h ho
      omega
    simp only
    unfold contF
    have hl : (c ++ [b]).length = c.length + 1 := by simp
    rw [hl]
    by_cases h41 : textW ws2 = [41]
    · rw [if_pos h41, if_pos ⟨by omega, h41⟩]
    · rw [if_neg h41]
      rw [if_neg (show ¬ (2 ≤ c.length + 1 ∧ textW ws2 = [41]) from fun h => h41 h.2)]
      by_cases hm : moreW k (c.length + 1) (textW ws2) = true
      · rw [if_pos hm, if_pos ((more_ahead hk (by omega) h24).1 hm)]
      · rw [if_neg hm, if_neg (fun h => hm ((more_ahead hk (by omega) h24).2 h))]
theorem ahead_kind {k m : Nat} (h1 : 1 ≤ m) (h : aheadW k m ≠ []) : 2 ≤ k ∧ k ≤ 7 := by
  unfold aheadW at h
  by_cases hk : 2 ≤ k ∧ k ≤ 7
  · exact hk
  · exfalso
    apply h
    have h0 : 8 ≤ k ∨ mostK k = 0 := by
      by_cases h8 : 8 ≤ k
      · exact .inl h8
      · have : k = 0 ∨ k = 1 := by omega
        rcases this with rfl | rfl <;> exact .inr rfl
    rw [if_pos (by omega)]
theorem kindW_lt (w : List UInt8) : kindW w ≤ 7 := by
  by_cases h : kindW w = 0
  · omega
  · exact (kindW_some h).2.1
end Rich
end Go.Proofs.YtlagnebgoclaeaaGreatDoor

namespace Go.Proofs.YtlagnebgoclaeaaGreatDoor
open Go.RowKit Rich Lex Span

theorem one_rich8g (W : World) (g : Nat) (t : TypeId) (cs : Array Value) (hg : g = W.heap.size) : ∀ (j : Nat) u, cs.toList[j]? = some u → (W.alloc (.cells cs t)).cell? ((⟨g, 0, none⟩ : Addr).add j) = some u := by
  subst hg
  intro j u hj
  have h := (Box.made W t cs).cell j
  rw [show ((⟨W.heap.size, 0, none⟩ : Addr).add j) = ⟨W.heap.size, j, none⟩ by simp [Addr.add]; try omega, h]
  simpa using hj
theorem ofD_op {ws : List (List UInt8)} {d : Dep.D} (h : Dep.ofD ws = some d) : d.op < 256 := by
  have h1 := (Dep.words_of h).1
  by_cases h0 : d.op = 0
  · omega
  · have h2 := (Rich.may_ops h1 h0).1
    by_cases h9 : d.op < 256
    · exact h9
    · exfalso
      have : mayO d.op = false := by unfold mayO; simp; omega
      rw [this] at h2
      cases h2
theorem richN_atom {B : Nat} {w : World} {d : Dep.D} (hd : d.op < 256) : RichN B w (.mk 1 d []) (richV 1 d (.slice none 0 0)) := fun W _ => by
  rw [RichS]
  exact ⟨none, 0, rfl, by omega, hd, by rw [ArgS]; trivial⟩
theorem seven_box {w : World} {g : Nat} {t : TypeId} {z0 z1 z2 z3 z4 z5 z6 : Value} (h : Box w g t #[z0, z1, z2, z3, z4, z5, z6]) (x0 x1 x2 x3 x4 x5 x6 : Value) :
    Box (((((((w.setCell ⟨g, 0, none⟩ x0).setCell ⟨g, 1, none⟩ x1).setCell ⟨g, 2, none⟩ x2).setCell ⟨g, 3, none⟩ x3).setCell ⟨g, 4, none⟩ x4).setCell ⟨g, 5, none⟩ x5).setCell ⟨g, 6, none⟩ x6) g t #[x0, x1, x2, x3, x4, x5, x6] := by
  have h1 : Box _ g t #[x0, z1, z2, z3, z4, z5, z6] := h.stored 0 x0
  have h2 : Box _ g t #[x0, x1, z2, z3, z4, z5, z6] := h1.stored 1 x1
  have h3 : Box _ g t #[x0, x1, x2, z3, z4, z5, z6] := h2.stored 2 x2
  have h4 : Box _ g t #[x0, x1, x2, x3, z4, z5, z6] := h3.stored 3 x3
  have h5 : Box _ g t #[x0, x1, x2, x3, x4, z5, z6] := h4.stored 4 x4
  have h6 : Box _ g t #[x0, x1, x2, x3, x4, x5, z6] := h5.stored 5 x5
  exact h6.stored 6 x6
theorem seven_kept {S : Nat → Prop} {a w : World} (h : Kept S a w) {g : Nat} (hg : S g ∨ a.heap.size ≤ g) (x0 x1 x2 x3 x4 x5 x6 : Value) :
    Kept S a (((((((w.setCell ⟨g, 0, none⟩ x0).setCell ⟨g, 1, none⟩ x1).setCell ⟨g, 2, none⟩ x2).setCell ⟨g, 3, none⟩ x3).setCell ⟨g, 4, none⟩ x4).setCell ⟨g, 5, none⟩ x5).setCell ⟨g, 6, none⟩ x6) :=
  Kept.setCell (S := S) (Kept.setCell (S := S) (Kept.setCell (S := S) (Kept.setCell (S := S) (Kept.setCell (S := S) (Kept.setCell (S := S) (Kept.setCell (S := S) h (p := ⟨g, 0, none⟩) hg x0) (p := ⟨g, 1, none⟩) hg x1) (p := ⟨g, 2, none⟩) hg x2) (p := ⟨g, 3, none⟩) hg x3) (p := ⟨g, 4, none⟩) hg x4) (p := ⟨g, 5, none⟩) hg x5) (p := ⟨g, 6, none⟩) hg x6
theorem own_one7 {w : World} {B g : Nat} {e : TypeId} {p : Pc} (hB : B ≤ g) (hb : Box w g e (arrP p)) : w.ownsRow B e 7 (.slice (some ⟨g, 0, none⟩) 1 1) 1 (cellsP [p]) :=
  ⟨rfl, .inr ⟨g, 1, arrP p, rfl, hB, hb, Nat.le_refl _, by unfold maxLen; omega, rfl, by simp [cellsP]⟩⟩
/-- What a round leaves: one Arg more. -/
theorem group_round {wr wx w5 w9 : World} {B G m : Nat} {e : TypeId} {vt v' : Value} {ps : List Pc} {p : Pc} {o : Obj} (hG : G < B) (hBx : B ≤ wr.heap.size)
    (HR : wr.ownsRow B e 7 vt m (cellsP ps)) (HD : ∀ q ∈ ps, Done8 B vt wr q) (hrx : Kept (fun b => b = G) wr wx) (hx5 : Kept (fun b => b = G) wx w5) (hv5 : RichN wx.heap.size w5 p.1 (valP p))
    (hown : w9.ownsRow B e 7 v' (m + 1) (cellsP ps ++ (arrP p).toList)) (hg : (w5.alloc o).grownBy w9 vt.ownBlock) (hb : v'.ownBlock = vt.ownBlock ∨ v'.ownBlock = some (w5.alloc o).heap.size) :
    w9.ownsRow B e 7 v' (m + 1) (cellsP (ps ++ [p])) ∧ Kept (fun b => vt.ownBlock = some b ∨ b = G) wr w9 ∧ ∀ q ∈ ps ++ [p], Done8 B v' w9 q := by
  have K5 : Kept (fun b => b = G) wr w5 := hrx.trans hx5 (fun _ _ h => h)
  have h5 := K5.size
  have hxs := hrx.size
  have hx5s := hx5.size
  have KW : Kept (fun b => vt.ownBlock = some b ∨ b = G) wr w9 := ((K5.weaker (fun _ _ h => .inr h)).alloc o).grown hg (fun i hi => .inl (.inl hi))
  refine ⟨?_, KW, ?_⟩
  · rw [cellsP_app]
    simp only [cellsP, List.append_nil]
    exact hown
  · intro q hq
    rcases List.mem_append.1 hq with hq | hq
    · refine (HD q hq).step KW hG ?_
      rcases hb with hb | hb
      · exact .inl hb
      · exact .inr ⟨_, by simp; omega, hb⟩
    · simp at hq
      subst hq
      refine ⟨w5, wx.heap.size, by omega, hv5, ((Kept.refl _ w5).alloc o).grown hg (fun i hi => .inl (Nat.lt_of_lt_of_le (HR.lt i hi).2 hxs)), fun g hgo => ?_⟩
      rcases hb with hb | hb
      · rw [hb] at hgo
        exact .inl (Nat.lt_of_lt_of_le (HR.lt g hgo).2 hxs)
      · rw [hb] at hgo
        injection hgo with hgo
        simp at hgo
        omega
theorem contF_end {e f o k n : Nat} {c : List R} {ws : List Wd} (h2 : 2 ≤ c.length) (h : textW ws = [41]) : contF e f o k c n ws = .ok (.mk k zD c, n, ws.tail) := by unfold contF; rw [if_pos ⟨h2, h⟩]
theorem contF_no {e f o k n : Nat} {c : List R} {ws : List Wd} (h1 : ¬ (2 ≤ c.length ∧ textW ws = [41])) (h : ¬ (aheadW k c.length ≠ [] ∧ textW ws = aheadW k c.length)) : contF e f o k c n ws = .error (placeW e ws, 4) := by unfold contF; rw [if_neg h1, if_neg h]
theorem contF_yes {e f o k n : Nat} {c : List R} {ws : List Wd} (h1 : ¬ (2 ≤ c.length ∧ textW ws = [41])) (h : aheadW k c.length ≠ [] ∧ textW ws = aheadW k c.length) : contF e f o k c n ws = moreF e f o k c n ws := by unfold contF; rw [if_neg h1, if_pos h]
end Go.Proofs.YtlagnebgoclaeaaGreatDoor

namespace Go.Proofs.YtlagnebgoclaeaaGreatDoor
open Go.RowKit Rich Lex Span

/-- A part that was read: it holds whatever becomes of what lies below its world; the blocks that may turn are of that sort. -/
def DoneS (B : Nat) (Sf : Nat → Prop) (wr : World) (p : Pc) : Prop := ∃ wj bj, B ≤ bj ∧ RichN bj wj p.1 (valP p) ∧ Kept (fun b => b < bj) wj wr ∧ ∀ g, Sf g → g < bj ∨ wj.heap.size ≤ g
theorem DoneS.step {B : Nat} {Sf Sf' : Nat → Prop} {wr w' : World} {p : Pc} (h : DoneS B Sf wr p) (hk : Kept Sf wr w') (hs : ∀ g, Sf' g → Sf g ∨ wr.heap.size ≤ g) : DoneS B Sf' w' p := by
  obtain ⟨wj, bj, h1, h2, h3, h4⟩ := h
  refine ⟨wj, bj, h1, h2, h3.trans hk fun i hi hs => ?_, fun g hg => ?_⟩
  · rcases h4 i hs with h | h
    · exact h
    · omega
  · rcases hs g hg with h | h
    · exact h4 g h
    · have := h3.size; omega
theorem DoneS.done8 {B : Nat} {Sf : Nat → Prop} {vt : Value} {wr : World} {p : Pc} (h : DoneS B Sf wr p) (hs : ∀ g, vt.ownBlock = some g → Sf g) : Done8 B vt wr p := by
  obtain ⟨wj, bj, h1, h2, h3, h4⟩ := h
  exact ⟨wj, bj, h1, h2, h3, fun g hg => h4 g (hs g hg)⟩
def SfD (vt : Value) (g G : Nat) (b : Nat) : Prop := vt.ownBlock = some b ∨ b = g ∨ b = G
theorem groupD_round {wr wx w5 w9 : World} {B G g m : Nat} {e : TypeId} {vt v' : Value} {ps : List Pc} {p : Pc} {o1 o2 : Obj} (hG : G < B) (hg : g < wr.heap.size) (hBx : B ≤ wx.heap.size) (hB : B ≤ g)
    (HR : wr.ownsRow B e 7 vt m (cellsP ps)) (HD : ∀ q ∈ ps, DoneS B (SfD vt g G) wr q) (hrx : Kept (fun b => b = G) wr wx) (hx5 : Kept (fun b => b = G) wx w5) (hv5 : RichN wx.heap.size w5 p.1 (valP p))
    (hown : w9.ownsRow B e 7 v' (m + 1) (cellsP ps ++ (arrP p).toList)) (hgr : ((w5.alloc o1).alloc o2).grownBy w9 vt.ownBlock) (hb : v'.ownBlock = vt.ownBlock ∨ v'.ownBlock = some ((w5.alloc o1).alloc o2).heap.size) (hne : ∀ j, vt.ownBlock = some j → j ≠ g) :
    (w9.setCell ⟨g, 6, none⟩ v').ownsRow B e 7 v' (m + 1) (cellsP (ps ++ [p])) ∧ Kept (SfD vt g G) wr (w9.setCell ⟨g, 6, none⟩ v') ∧ (∀ q ∈ ps ++ [p], DoneS B (SfD v' g G) (w9.setCell ⟨g, 6, none⟩ v') q) ∧ (∀ j, v'.ownBlock = some j → j ≠ g) := by
  have hxs := hrx.size
  have hx5s := hx5.size
  have hs2 : ((w5.alloc o1).alloc o2).heap.size = w5.heap.size + 1 + 1 := by simp
  have hne' : ∀ j, v'.ownBlock = some j → j ≠ g := fun j hj => by
    rcases hb with hb | hb
    · exact hne j (by rw [← hb]; exact hj)
    · rw [hb, hs2] at hj
      injection hj with hj
      omega
  have K5 : Kept (SfD vt g G) wr w5 := (hrx.weaker (fun _ _ h => .inr (.inr h))).trans hx5 (fun _ _ h => .inr (.inr h))
  have K9 : Kept (SfD vt g G) wr w9 := ((K5.alloc o1).alloc o2).grown hgr (fun i hi => .inl (.inl hi))
  have KW : Kept (SfD vt g G) wr (w9.setCell ⟨g, 6, none⟩ v') := K9.setCell (.inl (.inr (.inl rfl))) _
  refine ⟨?_, KW, ?_, hne'⟩
  · rw [cellsP_app]
    simp only [cellsP, List.append_nil]
    exact (Kept.setCell (S := fun b => b = g) (Kept.refl _ w9) (p := ⟨g, 6, none⟩) (.inl rfl) v').owns hown (fun j hj h => hne' j hj h)
  · intro q hq
    rcases List.mem_append.1 hq with hq | hq
    · refine (HD q hq).step KW fun j hj => ?_
      rcases hj with hj | hj
      · rcases hb with hb | hb
        · exact .inl (.inl (by rw [← hb]; exact hj))
        · rw [hb, hs2] at hj
          injection hj with hj
          exact .inr (by omega)
      · exact .inl (.inr hj)
    · simp at hq
      subst hq
      refine ⟨w5, wx.heap.size, hBx, hv5, ((((Kept.refl _ w5).alloc o1).alloc o2).grown hgr (fun i hi => .inl (Nat.lt_of_lt_of_le (HR.lt i hi).2 hxs))).setCell (.inl (by show g < _; omega)) _, fun j hj => ?_⟩
      rcases hj with hj | rfl | rfl
      · rcases hb with hb | hb
        · rw [hb] at hj
          exact .inl (Nat.lt_of_lt_of_le (HR.lt j hj).2 hxs)
        · rw [hb, hs2] at hj
          injection hj with hj
          exact .inr (by omega)
      · exact .inl (by omega)
      · exact .inl (by omega)
theorem box_kept_grown {w w' : World} {g : Nat} {t : TypeId} {cs : Array Value} {row : Option Nat} (h : Box w g t cs) (hg : w.grownBy w' row) (hne : row ≠ some g) : Box w' g t cs := (hg.block g h.lt (fun e => hne e.symm)).trans h
end Go.Proofs.YtlagnebgoclaeaaGreatDoor

namespace Go.Proofs.YtlagnebgoclaeaaGreatDoor
open Go.RowKit

/-- The worlds in which all old blocks lie as they lay, told by a map onto them. -/
theorem class_of (w : World) : ∃ (T : Type) (F : T → World) (t0 : T), F t0 = w.drew ∧ (∀ t, Kept (fun _ => False) w (F t)) ∧ ∀ t w', Kept (fun _ => False) (F t) w' → ∃ t', w' = F t' :=
  ⟨{ w' // Kept (fun _ => False) w w' }, Subtype.val, ⟨w.drew, (Kept.refl _ w).drew⟩, rfl, fun t => t.2, fun t w' h => ⟨⟨w', t.2.trans h (fun _ _ h => h)⟩, rfl⟩⟩
theorem wp_region_class {P : Program} {id : Nat} {Q : Exit → Act → World → Prop} {a : Act} {w : World} {l : List Oper} {T : Type} (F : T → World) (t0 : T) (h0 : F t0 = w.drew) (hm : P.follows .mixedOrders = true) (hB : Region.lexB .any l.toArray = true)
    (h : wpQuiet P l.toArray (fun w' => ∃ n, w' = F n) (fun a' => ∀ w', (∃ n, w' = F n) → Q .normal a' w') l a) : (Code.region id l.toArray true).wp P Q a w :=
  wp_region_quiet (C := fun w' => ∃ n, w' = F n) hm hB ⟨t0, h0.symm⟩ (by simpa using h)
theorem class_call {P : Program} {f : FuncId} {args : Array Value} {T : Type} {F : T → World} {t : T} {v : Value} (hs : ∀ t w', Kept (fun _ => False) (F t) w' → ∃ t', w' = F t')
    (h : Calls P f args (F t) fun e w' => e = .returned v ∧ Kept (fun _ => False) (F t) w') : Calls P f args (F t) fun e w' => e = .returned v ∧ ∃ m, w' = F m :=
  h.mono fun _ _ ⟨he, hk⟩ => ⟨he, hs t _ hk⟩
end Go.Proofs.YtlagnebgoclaeaaGreatDoor

namespace Go.Proofs.YtlagnebgoclaeaaGreatDoor
open Go.RowKit

theorem count_set_true : ∀ (l : List Bool) (i : Nat), l[i]? = some false → (l.set i true).count false + 1 = l.count false
  | [], i, h => by simp at h
  | b :: l, 0, h => by
    have hb : b = false := by simpa using h
    subst hb
    simp
  | b :: l, i + 1, h => by
    have h1 := count_set_true l i (by simpa using h)
    rw [List.set_cons_succ, List.count_cons, List.count_cons]
    omega
section
variable {P : Program} {ops : Array Oper} {md : Region.Mode} {Q : Exit → Act → World → Prop}
theorem ready_slot {listed : Array Bool} {i : Nat} (hs : listed.size = ops.size) (hi : i ∈ Region.ready md ops listed) : listed.toList[i]? = some false := by
  obtain ⟨h0, o, ho, _⟩ := mem_ready.1 hi
  have hlt : i < listed.size := by rw [hs]; exact (Array.getElem?_eq_some_iff.1 ho).1
  rw [Array.getElem?_toList, Array.getElem?_eq_getElem hlt]
  simpa [hlt] using h0
theorem wpAny_inv (I : Array Bool → Act → World → Prop)
    (hstep : ∀ listed a w i, listed.size = ops.size → i ∈ Region.ready md ops listed → I listed a w → wpOp P ops Q i (fun a' w' => I (listed.setIfInBounds i true) a' w') a w)
    (hend : ∀ listed a w, listed.size = ops.size → Region.ready md ops listed = [] → I listed a w → Q .normal a w) :
    ∀ (fuel : Nat) (listed : Array Bool) (a : Act) (w : World), listed.size = ops.size → listed.toList.count false ≤ fuel → I listed a w → wpAny P md ops Q fuel listed a w := by
  intro fuel
  induction fuel with
  | zero =>
    intro listed a w hs hc h
    have hr : Region.ready md ops listed = [] := by
      apply List.eq_nil_iff_forall_not_mem.2
      intro i hi
      have := List.count_pos_iff.2 (List.mem_of_getElem? (ready_slot hs hi))
      omega
    exact ⟨hr, hend listed a w hs hr h⟩
  | succ fuel ih =>
    intro listed a w hs hc h
    refine ⟨fun hr => hend listed a w hs hr h, fun i hi => wpOp_mono (fun a' w' h' => ih _ a' w' (by simpa using hs) ?_ h') (hstep listed a w i hs hi h)⟩
    have := count_set_true _ i (ready_slot hs hi)
    rw [Array.toList_setIfInBounds]
    omega

def dstOf (ops : Array Oper) (j : Nat) : Option Tmp := (ops[j]?).bind (·.dst)
/-- Does operation o wait for number j? -/
def waitsB (o : Oper) (j : Nat) : Bool := o.after.any fun e => Region.binds .any e && e.on == j
/-- Is slot t nobody's? -/
def nobodyB (l : List Oper) (t : Tmp) : Bool := l.all fun o => o.dst != some t
/-- Each has a slot of its own; each waits for elder ones alone. -/
def invB (n : Nat) : Nat → List Oper → Bool
  | _, [] => true
  | k, o :: l => (match o.dst with | some d => decide (d < n) && nobodyB l d | none => true) && o.after.all (fun e => !Region.binds .any e || decide (e.on < k)) && invB n (k + 1) l
theorem nobody_iff {l : List Oper} {t : Tmp} (h : nobodyB l t = true) : ∀ j, dstOf l.toArray j ≠ some t := by
  intro j hj
  unfold dstOf at hj
  obtain ⟨o, ho, hd⟩ := Option.bind_eq_some_iff.1 hj
  have hm : o ∈ l := List.mem_of_getElem? (by simpa using ho)
  have := List.all_eq_true.1 h o hm
  simp [hd] at this
theorem invB_spec {n : Nat} : ∀ (l : List Oper) (k : Nat), invB n k l = true → ∀ i o, l[i]? = some o → (∀ d, o.dst = some d → d < n ∧ ∀ j p, l[j]? = some p → i < j → p.dst ≠ some d) ∧ ∀ e ∈ o.after, Region.binds .any e = true → e.on < k + i
  | [], _, _, i, o, h => by simp at h
  | o :: l, k, hB, 0, p, h => by
    have hp : o = p := by simpa using h
    subst hp
    simp only [invB, Bool.and_eq_true] at hB
    obtain ⟨⟨h2, h3⟩, _⟩ := hB
    refine ⟨?_, ?_⟩
    · intro d hd
      rw [hd] at h2
      simp only [Bool.and_eq_true, decide_eq_true_eq] at h2
      refine ⟨h2.1, fun j p hj hlt => ?_⟩
      obtain ⟨j, rfl⟩ : ∃ j', j = j' + 1 := ⟨j - 1, by omega⟩
      have hj' : l[j]? = some p := by simpa using hj
      intro hpd
      exact nobody_iff h2.2 j (by unfold dstOf; simp [hj', hpd])
    · intro e he hb
      have := Array.all_eq_true_iff_forall_mem.1 h3 e he
      simp [hb] at this
      omega
  | o :: l, k, hB, i + 1, p, h => by
    simp only [invB, Bool.and_eq_true] at hB
    obtain ⟨g4, g5⟩ := invB_spec l (k + 1) hB.2 i p (by simpa using h)
    refine ⟨fun d hd => ⟨(g4 d hd).1, fun j q hj hlt => ?_⟩, fun e he hb => by have := g5 e he hb; omega⟩
    obtain ⟨j, rfl⟩ : ∃ j', j = j' + 1 := ⟨j - 1, by omega⟩
    exact (g4 d hd).2 j q (by simpa using hj) (by omega)

/-- What is asked of operation o, number i, where it is carried out, slots as in a0 but for what has come up; C: what holds of the world once these have come up; R: what an operation may do. -/
def OpWP (P : Program) (Q : Exit → Act → World → Prop) (S : Nat → World → Value → Prop) (R : World → World → Prop) (C : Array Bool → World → Prop) (l : List Oper) (a0 : Act) (i : Nat) (o : Oper) : Prop :=
  ∀ (listed : Array Bool) (a : Act) (w : World), C listed w → listed.size = l.length → listed.getD i false = false → (∀ j p, l[j]? = some p → waitsB p i = true → listed.getD j false = false) →
    (∀ t v, nobodyB l t = true → a0.tmps.getD t undef = v → a.tmps.getD t undef = v) →
    (∀ j d, waitsB o j = true → dstOf l.toArray j = some d → ∃ v, a.tmps.getD d undef = v ∧ S j w v) →
    ∀ K : Act → World → Prop, (∀ v w', R w w' → C (listed.setIfInBounds i true) w' → (o.dst.isSome = true → S i w' v) → K (a.put o.dst v) w') → o.wp P a w K Q
/-- The same, whether it is carried out or not. -/
def OpOK (P : Program) (Q : Exit → Act → World → Prop) (S : Nat → World → Value → Prop) (R : World → World → Prop) (C : Array Bool → World → Prop) (l : List Oper) (a0 : Act) (i : Nat) (o : Oper) : Prop :=
  ∀ (listed : Array Bool) (a : Act) (w : World), C listed w → listed.size = l.length → listed.getD i false = false → (∀ j p, l[j]? = some p → waitsB p i = true → listed.getD j false = false) →
    (∀ t v, nobodyB l t = true → a0.tmps.getD t undef = v → a.tmps.getD t undef = v) →
    (∀ j d, waitsB o j = true → dstOf l.toArray j = some d → ∃ v, a.tmps.getD d undef = v ∧ S j w v) →
    ∀ K : Act → World → Prop, (∀ v w', R w w' → C (listed.setIfInBounds i true) w' → (o.dst.isSome = true → S i w' v) → K (a.put o.dst v) w') → if Region.wanted o (yielded l.toArray a.tmps) = true then o.wp P a w K Q else K (a.put o.dst undef) w
section
variable {Q : Exit → Act → World → Prop} {S : Nat → World → Value → Prop} {R : World → World → Prop} {C : Array Bool → World → Prop} {l : List Oper} {a0 : Act} {i : Nat} {o : Oper}
theorem OpOK.plain (hg : o.guard = none) (h : OpWP P Q S R C l a0 i o) : OpOK P Q S R C l a0 i o := fun ls a w h1 hz h2 h3 h4 h5 K hK => by
  rw [if_pos (by simp [Region.wanted, hg])]
  exact h ls a w h1 hz h2 h3 h4 h5 K hK
/-- A guard that says yes, whatever the order. -/
theorem OpOK.yes {g d : Nat} {b : Bool} (hg : o.guard = some (g, b)) (hw : waitsB o g = true) (hd : dstOf l.toArray g = some d) (hS : ∀ w v, S g w v → v = .bool b) (h : OpWP P Q S R C l a0 i o) : OpOK P Q S R C l a0 i o := fun ls a w h1 hz h2 h2b h4 h3 K hK => by
  obtain ⟨v, hv, hs⟩ := h3 g d hw hd
  have hb := hS w v hs
  subst hb
  have hy : yielded l.toArray a.tmps g = some b := by
    unfold yielded
    unfold dstOf at hd
    rw [hd]
    rw [Array.getD_eq_getD_getElem?] at hv
    cases ht : a.tmps[d]? with
    | none => rw [ht] at hv; cases hv
    | some u =>
      rw [ht] at hv
      have hu : u = .bool b := hv
      subst hu
      simp [ht]
  rw [if_pos (by simp [Region.wanted, hg, hy])]
  exact h ls a w h1 hz h2 h2b h4 h3 K hK
end
def OpsOK (P : Program) (Q : Exit → Act → World → Prop) (S : Nat → World → Value → Prop) (R : World → World → Prop) (C : Array Bool → World → Prop) (l : List Oper) (a0 : Act) : Nat → List Oper → Prop
  | _, [] => True
  | i, o :: r => OpOK P Q S R C l a0 i o ∧ OpsOK P Q S R C l a0 (i + 1) r
theorem OpsOK.at {Q : Exit → Act → World → Prop} {S : Nat → World → Value → Prop} {R : World → World → Prop} {C : Array Bool → World → Prop} {l : List Oper} {a0 : Act} : ∀ (r : List Oper) (k : Nat), OpsOK P Q S R C l a0 k r → ∀ i o, r[i]? = some o → OpOK P Q S R C l a0 (k + i) o
  | [], _, _, i, o, h => by simp at h
  | p :: r, k, hh, 0, o, h => by
    have : p = o := by simpa using h
    subst this
    exact hh.1
  | p :: r, k, hh, i + 1, o, h => by
    have := OpsOK.at r (k + 1) hh.2 i o (by simpa using h)
    rwa [show k + 1 + i = k + (i + 1) by omega] at this
/-- What is asked behind the region: for whatever values of these kinds. -/
def EndsP (Q : Exit → Act → World → Prop) (S : Nat → World → Value → Prop) (w : World) : Nat → List Oper → Act → Prop
  | _, [], a => Q .normal a w
  | k, o :: r, a => match o.dst with
    | some d => ∀ v, S k w v → EndsP Q S w (k + 1) r (a.put (some d) v)
    | none => EndsP Q S w (k + 1) r a
structure InvS (l : List Oper) (S : Nat → World → Value → Prop) (C : Array Bool → World → Prop) (a0 : Act) (listed : Array Bool) (a : Act) (w : World) : Prop where
  cls : C listed w
  defers : a.defers = a0.defers
  size : a.tmps.size = a0.tmps.size
  same : ∀ t, nobodyB l t = true → a.tmps[t]? = a0.tmps[t]?
  slot : ∀ j d, dstOf l.toArray j = some d → listed.getD j false = true → ∃ v, a.tmps[d]? = some v ∧ S j w v
  closed : ∀ j o, l[j]? = some o → listed.getD j false = true → ∀ e ∈ o.after, Region.binds .any e = true → listed.getD e.on false = true
/-- The frame at the end, slot by slot. -/
theorem ends_of {Q : Exit → Act → World → Prop} {S : Nat → World → Value → Prop} {w : World} : ∀ (r : List Oper) (k : Nat) (a a' : Act) (n : Nat), EndsP Q S w k r a → invB n k r = true → n = a.tmps.size →
    a'.defers = a.defers → a'.tmps.size = a.tmps.size → (∀ t, nobodyB r t = true → a'.tmps[t]? = a.tmps[t]?) → (∀ i d, dstOf r.toArray i = some d → ∃ v, a'.tmps[d]? = some v ∧ S (k + i) w v) → Q .normal a' w
  | [], k, a, a', n, h, _, _, hd, hz, hs, _ => by
    have e : a' = a := by
      obtain ⟨T, D⟩ := a
      obtain ⟨T', D'⟩ := a'
      simp only at hd hz hs
      subst hd
      have : T' = T := Array.ext_getElem? fun t => hs t rfl
      rw [this]
    rw [e]
    exact h
  | o :: r, k, a, a', n, h, hB, hn, hd, hz, hs, hv => by
    simp only [invB, Bool.and_eq_true] at hB
    obtain ⟨⟨h2, _⟩, hB'⟩ := hB
    rw [EndsP] at h
    cases hod : o.dst with
    | none =>
      rw [hod] at h
      refine ends_of r (k + 1) a a' n h hB' hn hd hz (fun t ht => hs t ?_) (fun i e hi => ?_)
      · unfold nobodyB at ht ⊢
        simp only [List.all_cons, Bool.and_eq_true]
        exact ⟨by rw [hod]; rfl, ht⟩
      · obtain ⟨u, hu1, hu2⟩ := hv (i + 1) e (by unfold dstOf at hi ⊢; simpa using hi)
        exact ⟨u, hu1, by rwa [show k + 1 + i = k + (i + 1) by omega]⟩
    | some d =>
      rw [hod] at h2 h
      simp only [Bool.and_eq_true, decide_eq_true_eq] at h2
      obtain ⟨v, hv1, hv2⟩ := hv 0 d (by unfold dstOf; simp [hod])
      have h1 := h v (by simpa using hv2)
      refine ends_of r (k + 1) _ a' n h1 hB' (by rw [hn]; simp [Act.put]) hd (by rw [hz]; simp [Act.put]) (fun t ht => ?_) (fun i e hi => ?_)
      · by_cases htd : t = d
        · subst htd
          rw [hv1]
          simp only [Act.put]
          rw [Array.getElem?_setIfInBounds_self_of_lt (by have h9 := h2.1; rw [hn] at h9; exact h9)]
        · have : nobodyB (o :: r) t = true := by
            unfold nobodyB at ht ⊢
            simp only [List.all_cons, Bool.and_eq_true]
            exact ⟨by rw [hod]; simpa using fun e => htd e.symm, ht⟩
          rw [hs t this]
          simp only [Act.put]
          rw [Array.getElem?_setIfInBounds_ne (fun e => htd e.symm)]
      · obtain ⟨u, hu1, hu2⟩ := hv (i + 1) e (by unfold dstOf at hi ⊢; simpa using hi)
        exact ⟨u, hu1, by rwa [show k + 1 + i = k + (i + 1) by omega]⟩
end
/-- **One goal for each operation**: of what values it makes, for whatever values of their kinds the others have made; and one for what stands behind. -/
theorem wp_region_inv {P : Program} {Q : Exit → Act → World → Prop} {id : Nat} {l : List Oper} {a0 : Act} {w0 : World} (S : Nat → World → Value → Prop) (R : World → World → Prop) (C : Array Bool → World → Prop) (hm : P.follows .mixedOrders = true) (hB : invB a0.tmps.size 0 l = true)
    (hC : C (Array.replicate l.toArray.size false) w0.drew) (hst : ∀ j w w' v, R w w' → S j w v → S j w' v) (hops : OpsOK P Q S R C l a0 0 l)
    (hend : ∀ listed w, (∀ i, i < l.length → listed.getD i false = true) → C listed w → EndsP Q S w 0 l a0) : (Code.region id l.toArray true).wp P Q a0 w0 := by
  have hsp := invB_spec l 0 hB
  refine wp_region_any hm (wpAny_inv (InvS l S C a0) ?_ ?_ _ _ _ _ (by simp) (by simp) ?_)
  · intro listed a w i hs hi hI
    obtain ⟨h0, o, ho, hall⟩ := mem_ready.1 hi
    have ho' : l[i]? = some o := by simpa using ho
    have hil : i < listed.size := by rw [hs]; exact (Array.getElem?_eq_some_iff.1 ho).1
    have h0f : listed.getD i false = false := by simpa [hil] using h0
    obtain ⟨hdd, hback⟩ := hsp i o ho'
    have hok := OpsOK.at l 0 hops i o ho'
    rw [Nat.zero_add] at hok
    refine wpOp_step ho fun K' hK' => hok listed a w hI.cls (by rw [hs]; simp) h0f (fun j p hj hw => ?_) (fun t v ht h => ?_) (fun j e hw he => ?_) _ fun v w' hR hc hv => hK' _ _ ?_
    · cases hlj : listed.getD j false with
      | false => rfl
      | true =>
        unfold waitsB at hw
        obtain ⟨ed, hed, hb⟩ := Array.any_eq_true'.1 hw
        simp only [Bool.and_eq_true, beq_iff_eq] at hb
        have := hI.closed j p hj hlj ed hed hb.1
        rw [hb.2, h0f] at this
        cases this
    · rw [← h, Array.getD_eq_getD_getElem?, Array.getD_eq_getD_getElem?, hI.same t ht]
    · unfold waitsB at hw
      obtain ⟨ed, hed, hb⟩ := Array.any_eq_true'.1 hw
      simp only [Bool.and_eq_true, beq_iff_eq] at hb
      obtain ⟨u, hu1, hu2⟩ := hI.slot j e he (by rw [← hb.2]; exact hall ed hed hb.1)
      exact ⟨u, by rw [Array.getD_eq_getD_getElem?, hu1]; rfl, hu2⟩
    · have hnot : ∀ t, nobodyB l t = true → o.dst ≠ some t := fun t ht hd => nobody_iff ht i (by unfold dstOf; simp [ho', hd])
      have hput : ∀ t, o.dst ≠ some t → (a.put o.dst v).tmps[t]? = a.tmps[t]? := fun t ht => by
        cases hd : o.dst with
        | none => rfl
        | some d =>
          simp only [Act.put]
          rw [Array.getElem?_setIfInBounds_ne (fun e => ht (by rw [hd, e]))]
      have hsz : (a.put o.dst v).tmps.size = a.tmps.size := by cases o.dst <;> simp [Act.put]
      refine ⟨hc, by rw [← hI.defers]; cases o.dst <;> rfl, by rw [hsz]; exact hI.size, fun t ht => (hput t (hnot t ht)).trans (hI.same t ht), fun j e he hl => ?_, fun j p hj hl ed hed hb => ?_⟩
      · by_cases hji : j = i
        · subst hji
          have hed : o.dst = some e := by unfold dstOf at he; simp [ho'] at he; exact he
          refine ⟨v, ?_, hv (by rw [hed]; rfl)⟩
          rw [hed]
          simp only [Act.put]
          rw [Array.getElem?_setIfInBounds_self_of_lt (by rw [hI.size]; exact (hdd e hed).1)]
        · rw [getD_set_ne false (Ne.symm hji)] at hl
          obtain ⟨u, hu1, hu2⟩ := hI.slot j e he hl
          refine ⟨u, ?_, hst j w w' u hR hu2⟩
          refine (hput e (fun hd => ?_)).trans hu1
          unfold dstOf at he
          obtain ⟨p, hp, hpd⟩ := Option.bind_eq_some_iff.1 he
          have hp' : l[j]? = some p := by simpa using hp
          rcases Nat.lt_or_ge i j with hlt | hge
          · exact (hdd e hd).2 j p hp' hlt hpd
          · exact ((hsp j p hp').1 e hpd).2 i o ho' (by omega) hd
      · by_cases hji : j = i
        · subst hji
          rw [ho'] at hj
          injection hj with hj
          subst hj
          exact getD_set_true (hall ed hed hb)
        · rw [getD_set_ne false (Ne.symm hji)] at hl
          exact getD_set_true (hI.closed j p hj hl ed hed hb)
  · intro listed a w hs hr hI
    have hallL : ∀ i, i < l.length → listed.getD i false = true := by
      intro i
      induction i using Nat.strongRecOn with
      | _ i ih =>
        intro hi
        by_cases hli : listed.getD i false = true
        · exact hli
        · exfalso
          obtain ⟨o, ho⟩ : ∃ o, l[i]? = some o := ⟨_, List.getElem?_eq_getElem hi⟩
          obtain ⟨_, hback⟩ := hsp i o ho
          have hmem : i ∈ Region.ready .any l.toArray listed := mem_ready.2 ⟨by
            have hlt : i < listed.size := by rw [hs]; simpa using hi
            simp [hlt] at hli ⊢
            exact hli, o, by simpa using ho, fun e he hb => ih e.on (by have := hback e he hb; omega) (by have := hback e he hb; omega)⟩
          rw [hr] at hmem
          cases hmem
    refine ends_of l 0 a0 a _ (hend listed w hallL hI.cls) hB rfl hI.defers hI.size hI.same (fun i d hd => ?_)
    have hi : i < l.length := by
      unfold dstOf at hd
      obtain ⟨p, hp, _⟩ := Option.bind_eq_some_iff.1 hd
      have := (Array.getElem?_eq_some_iff.1 hp).1
      simpa using this
    rw [Nat.zero_add]
    exact hI.slot i d hd (hallL i hi)
  · have hno : ∀ j, (Array.replicate l.toArray.size false).getD j false = false := fun j => by
      rcases Nat.lt_or_ge j l.length with hj | hj
      · simp [hj]
      · simp [Nat.not_lt.2 hj]
    exact ⟨hC, rfl, rfl, fun _ _ => rfl, (fun j d _ h => by rw [hno] at h; cases h), (fun j o _ h => by rw [hno] at h; cases h)⟩
end Go.Proofs.YtlagnebgoclaeaaGreatDoor
