/-
  Rich dependencies in memory: what a value reads as. Nothing of the program is named here but its types. The walks over the document's counts of layer 8: how many parts, how deep. The walks over the laws' own measure of layer 8: whether a rich dependency is more than a statement goes over. Conditions: as each theorem states.
-/
import Derived.Test.YtoebokgpdkklmaaGreatDoorK03
import Derived.Test.YtoebokgpdkklmaaGreatDoorK04
import Derived.Test.YtoebokgpdkklmaaGreatDoorRows
import Derived.Handy
import Derived.Lib.Hide
import Derived.LoopN
import Derived.Deep.QuietTactic
namespace Go.Proofs.YtoebokgpdkklmaaGreatDoor
open Go.RowKit
namespace Rich
open Ver Evr Span Dep Lex

abbrev richA (k : Nat) (d : D) (sl : Value) : Array Value := #[.int .u8 (k : Int), .string ⟨d.name.toArray⟩, .int .u8 (d.op : Int), .int .i64 d.evr.epoch, .string ⟨d.evr.ver.toArray⟩, .string ⟨d.evr.rel.toArray⟩, sl]
abbrev richV (k : Nat) (d : D) (sl : Value) : Value := .agg (richA k d sl)
mutual
/-- The value reads as this rich dependency. -/
def RichS (w : World) : R → Value → Prop
  | .mk k d l, v => ∃ ao cp, v = richV k d (.slice ao l.length cp) ∧ k < 256 ∧ d.op < 256 ∧ ArgS w ao 0 l
/-- What lies there from place i on reads as these. -/
def ArgS (w : World) (ao : Option Addr) : Nat → List R → Prop
  | _, [] => True
  | i, x :: l => (∃ b off v, ao = some ⟨b, off, none⟩ ∧ b < w.heap.size ∧ RichS w x v ∧ ∀ (j : Nat) u, v.cells.toList[j]? = some u → w.cell? ⟨b, off + i * 7 + j, none⟩ = some u) ∧ ArgS w ao (i + 1) l
end
mutual
theorem RichS.kept {w w' : World} (hk : Kept (fun _ => False) w w') : ∀ (x : R) (v : Value), RichS w x v → RichS w' x v
  | .mk k d l, v, h => by
    rw [RichS] at h ⊢
    obtain ⟨ao, cp, h1, h2, h3, h4⟩ := h
    exact ⟨ao, cp, h1, h2, h3, ArgS.kept hk ao 0 l h4⟩
theorem ArgS.kept {w w' : World} (hk : Kept (fun _ => False) w w') (ao : Option Addr) : ∀ (i : Nat) (l : List R), ArgS w ao i l → ArgS w' ao i l
  | _, [], _ => by rw [ArgS]; trivial
  | i, x :: l, h => by
    rw [ArgS] at h ⊢
    obtain ⟨⟨b, off, v, h1, h2, h3, h4⟩, h5⟩ := h
    exact ⟨⟨b, off, v, h1, Nat.lt_of_lt_of_le h2 hk.size, RichS.kept hk x v h3, fun j u hj => (hk.cell (p := ⟨b, off + i * 7 + j, none⟩) h2 (fun h => h)).trans (h4 j u hj)⟩, ArgS.kept hk ao (i + 1) l h5⟩
end
theorem ArgS.at {w : World} {ao : Option Addr} : ∀ {l : List R} {i0 i : Nat} {x : R}, ArgS w ao i0 l → l[i]? = some x → ∃ b off v, ao = some ⟨b, off, none⟩ ∧ b < w.heap.size ∧ RichS w x v ∧ ∀ (j : Nat) u, v.cells.toList[j]? = some u → w.cell? ⟨b, off + (i0 + i) * 7 + j, none⟩ = some u
  | [], _, _, _, _, h => by simp at h
  | y :: l, i0, i, x, hA, h => by
    rw [ArgS] at hA
    cases i with
    | zero =>
      simp at h
      subst h
      exact hA.1
    | succ i =>
      have := ArgS.at hA.2 (i := i) (by simpa using h)
      rw [show i0 + (i + 1) = i0 + 1 + i by omega]
      exact this
/-- Args, one by one. -/
theorem ArgS.of {w : World} {ao : Option Addr} : ∀ {l : List R} {i0 : Nat}, (∀ (i : Nat) x, l[i]? = some x → ∃ b off v, ao = some ⟨b, off, none⟩ ∧ b < w.heap.size ∧ RichS w x v ∧ ∀ (j : Nat) u, v.cells.toList[j]? = some u → w.cell? ⟨b, off + (i0 + i) * 7 + j, none⟩ = some u) → ArgS w ao i0 l
  | [], _, _ => by rw [ArgS]; trivial
  | y :: l, i0, h => by
    rw [ArgS]
    refine ⟨h 0 y rfl, ArgS.of fun i x hx => ?_⟩
    have := h (i + 1) x (by simpa using hx)
    rw [show i0 + 1 + i = i0 + (i + 1) by omega]
    exact this
/-- A part as it lies there: its value, and its seven cells. -/
theorem ArgS.part {w : World} {ao : Option Addr} {l : List R} {i : Nat} {x : R} (h : ArgS w ao 0 l) (hi : l[i]? = some x) :
    ∃ (b off : Nat) (ao' : Option Addr) (cp' : Nat), ao = some ⟨b, off, none⟩ ∧ b < w.heap.size ∧ RichS w x (richV x.kind x.dep (.slice ao' x.args.length cp')) ∧
      w.cell? ⟨b, off + i * 7, none⟩ = some (.int .u8 (x.kind : Int)) ∧ w.cell? ⟨b, off + i * 7 + 1, none⟩ = some (.string ⟨x.dep.name.toArray⟩) ∧ w.cell? ⟨b, off + i * 7 + 2, none⟩ = some (.int .u8 (x.dep.op : Int)) ∧
      w.cell? ⟨b, off + i * 7 + 3, none⟩ = some (.int .i64 x.dep.evr.epoch) ∧ w.cell? ⟨b, off + i * 7 + 4, none⟩ = some (.string ⟨x.dep.evr.ver.toArray⟩) ∧ w.cell? ⟨b, off + i * 7 + 5, none⟩ = some (.string ⟨x.dep.evr.rel.toArray⟩) ∧
      w.cell? ⟨b, off + i * 7 + 6, none⟩ = some (.slice ao' x.args.length cp') := by
  obtain ⟨b, off, v, h1, h2, h3, h4⟩ := ArgS.at h hi
  obtain ⟨k, d, l'⟩ := x
  have h3' := h3
  rw [RichS] at h3'
  obtain ⟨ao', cp', rfl, _⟩ := h3'
  rw [Nat.zero_add] at h4
  exact ⟨b, off, ao', cp', h1, h2, h3, h4 0 _ rfl, h4 1 _ rfl, h4 2 _ rfl, h4 3 _ rfl, h4 4 _ rfl, h4 5 _ rfl, h4 6 _ rfl⟩
/-- By its Args. -/
theorem R.ind {P : R → Prop} (h : ∀ k d l, (∀ y ∈ l, P y) → P (.mk k d l)) : ∀ x, P x := by
  have key : ∀ (n : Nat) (x : R), SizeOf.sizeOf x ≤ n → P x := by
    intro n
    induction n with
    | zero => intro x hx; cases x; simp at hx
    | succ n ih =>
      intro x hx
      obtain ⟨k, d, l⟩ := x
      refine h k d l fun y hy => ih y ?_
      have := List.sizeOf_lt_of_mem hy
      simp at hx
      omega
  exact fun x => key _ x (Nat.le_refl _)
theorem counts_take {l : List R} {i : Nat} {x : R} (h : l[i]? = some x) : counts (l.take (i + 1)) = counts (l.take i) + count x := by
  rw [List.take_add_one, h]
  have app : ∀ a b : List R, counts (a ++ b) = counts a + counts b := by
    intro a b
    induction a with
    | nil => rw [counts, List.nil_append, Nat.zero_add]
    | cons y a ih => rw [List.cons_append, counts, counts, ih]; omega
  rw [app]
  show _ + counts [x] = _
  rw [counts, counts]
  omega
theorem counts_take_le (l : List R) (i : Nat) : counts (l.take i) ≤ counts l := by
  have app : ∀ a b : List R, counts (a ++ b) = counts a + counts b := by
    intro a b
    induction a with
    | nil => rw [counts, List.nil_append, Nat.zero_add]
    | cons y a ih => rw [List.cons_append, counts, counts, ih]; omega
  have h := app (l.take i) (l.drop i)
  rw [List.take_append_drop] at h
  omega
theorem count_pos (x : R) : 1 ≤ count x := by cases x; rw [count]; omega
theorem counts_len : ∀ l : List R, l.length ≤ counts l
  | [] => by simp
  | x :: l => by
    rw [counts]
    have := counts_len l
    have := count_pos x
    simp only [List.length_cons]
    omega
end Rich
end Go.Proofs.YtoebokgpdkklmaaGreatDoor

namespace Go.Proofs.YtoebokgpdkklmaaGreatDoor
open Go.RowKit Rich

set_option maxRecDepth 100000 in
set_option maxHeartbeats 2000000 in
theorem parts8_walk : ∀ (x : R) (v : Value) (w : World), RichS w x v → count x ≤ 40000 →
    Calls Tryz.prog 25 #[v] w fun e w' => e = .returned (.int .i64 (count x : Int)) ∧ Kept (fun _ => False) w w' := by
  refine R.ind fun k d l ih v w hr hc => ?_
  rw [RichS] at hr
  obtain ⟨ao, cp, rfl, hk, ho, hA⟩ := hr
  rw [count] at hc
  have hll := counts_len l
  have HI := Lib.hid ih
  have HA := Lib.hid hA
  have HC := Lib.hid hc
  have HCF := Lib.hid (show (count (.mk k d l) : Int) = ((1 + counts l : Nat) : Int) by rw [count])
  have HB := Lib.hid (Box.made w 28 (richA k d (.slice ao l.length cp)))
  clear ih hA hc
  have hlI : l.length ≤ 40000 := by have := HC.out; omega
  go_enter Tryz.func25, Tryz.ntmps25
  go_wp2_with fail
  go_loopw [3, 4] (fun v3 v4 wr => ∃ (i c : Nat), v3 = .int .i64 (c : Int) ∧ v4 = .int .i64 (i : Int) ∧ i ≤ l.length ∧ c ≤ 40000 ∧ Hid (c = 1 + counts (l.take i)) ∧ Hid (Box wr w.heap.size 28 (richA k d (.slice ao l.length cp))) ∧ Hid (Kept (fun _ => False) w wr)) (fun _ v4 _ => l.length - (intOf v4).toNat)
  case atStart => exact ⟨0, 1, rfl, rfl, Nat.zero_le _, by omega, Lib.hid (by rw [List.take_zero, counts]), HB, Lib.hid ((Kept.refl _ _).alloc _)⟩
  case round =>
    obtain ⟨i, c, rfl, rfl, hi, hc4, HCi, HBr, HK⟩ := hrel
    rename World => wr
    have b6 : wr.cell? ⟨w.heap.size, 6, none⟩ = some (.slice ao l.length cp) := HBr.out.cell 6
    by_cases hlt : i < l.length
    · obtain ⟨x, hx⟩ : ∃ x, l[i]? = some x := ⟨_, List.getElem?_eq_getElem hlt⟩
      obtain ⟨b, off, ao', cp', rfl, hb, hrx, d0, d1, d2, d3, d4, d5, d6⟩ := (ArgS.kept HK.out ao 0 l HA.out).part hx
      have hct := counts_take hx
      have hcl := counts_take_le l (i + 1)
      have hcp := count_pos x
      have hcx : count x ≤ 40000 := by have := HC.out; omega
      have PC := HI.out x (List.mem_of_getElem? hx) _ wr hrx hcx
      have HN := Lib.hid (show c + count x = 1 + counts (l.take (i + 1)) by rw [hct, HCi.out]; omega)
      have hcn : c + count x ≤ 40000 := by have := HN.out; have := HC.out; omega
      have hi0 : (0 : Int) ≤ (i : Int) := by omega
      have hiI : (i : Int) < (l.length : Int) := by omega
      generalize count x = cx at *
      clear hx hrx hct hcl hcp
      go_wp2_with (first
        | (go_at_call 25; refine PC.mono ?_; rintro e w5 ⟨rfl, hk5⟩; have HK := Lib.hid (Kept.trans HK.out hk5 (fun _ _ h => h)); have HBr := Lib.hid (hk5.box HBr.out (fun h => h)); clear hk5)
        | fail)
      go_roundw
      case rel => exact ⟨i + 1, c + cx, by go_num, by go_num, by omega, hcn, HN, HBr, HK⟩
      case measure => simp [intOf]; omega
    · have hge : ¬ (i : Int) < (l.length : Int) := by omega
      have HF := Lib.hid (show ((c : Nat) : Int) = (count (.mk k d l) : Int) by
        rw [HCF.out, HCi.out, List.take_of_length_le (by omega)])
      go_wp2_with fail
      go_ret
      exact ⟨by rw [← HF.out]; rfl, HK.out⟩
theorem deeps_take {l : List R} {i : Nat} {x : R} (h : l[i]? = some x) : deeps (l.take (i + 1)) = max (deeps (l.take i)) (deep x) := by
  rw [List.take_add_one, h]
  have app : ∀ a b : List R, deeps (a ++ b) = max (deeps a) (deeps b) := by
    intro a b
    induction a with
    | nil => rw [deeps, List.nil_append]; omega
    | cons y a ih => rw [List.cons_append, deeps, deeps, ih]; omega
  rw [app]
  show max _ (deeps [x]) = _
  rw [deeps, deeps]
  omega
theorem deep_count : ∀ x : R, deep x ≤ count x := by
  refine R.ind fun k d l ih => ?_
  rw [deep, count]
  split
  · omega
  · have : deeps l ≤ counts l := by
      induction l with
      | nil => rw [deeps]; omega
      | cons y l ih2 =>
        rw [deeps, counts]
        have := ih y (by simp)
        have := ih2 (fun z hz => ih z (by simp [hz]))
        omega
    omega
set_option maxRecDepth 100000 in
set_option maxHeartbeats 2000000 in
theorem deep8_walk : ∀ (x : R) (v : Value) (w : World), RichS w x v → count x ≤ 40000 →
    Calls Tryz.prog 26 #[v] w fun e w' => e = .returned (.int .i64 (deep x : Int)) ∧ Kept (fun _ => False) w w' := by
  refine R.ind fun k d l ih v w hr hc => ?_
  rw [RichS] at hr
  obtain ⟨ao, cp, rfl, hk, ho, hA⟩ := hr
  rw [count] at hc
  have hll := counts_len l
  have HI := Lib.hid ih
  have HA := Lib.hid hA
  have HC := Lib.hid hc
  have HB := Lib.hid (Box.made w 28 (richA k d (.slice ao l.length cp)))
  clear ih hA hc
  have hlI : l.length ≤ 40000 := by have := HC.out; omega
  by_cases hk1 : k = 1
  · have HF := Lib.hid (show deep (.mk k d l) = 0 by rw [deep, if_pos hk1])
    have hkb : ((k : Int) == 1) = true := by simp; omega
    clear hk1
    go_enter Tryz.func26, Tryz.ntmps26
    go_wp2_with fail
    go_ret
    exact ⟨by rw [HF.out]; rfl, (Kept.refl _ _).alloc _⟩
  · have HCF := Lib.hid (show (deep (.mk k d l) : Int) = ((deeps l + 1 : Nat) : Int) by rw [deep, if_neg hk1])
    have hkb : ((k : Int) == 1) = false := by simp; omega
    clear hk1
    go_enter Tryz.func26, Tryz.ntmps26
    go_wp2_with fail
    go_loopw [3, 4] (fun v3 v4 wr => ∃ (i c : Nat), v3 = .int .i64 (c : Int) ∧ v4 = .int .i64 (i : Int) ∧ i ≤ l.length ∧ c ≤ 40000 ∧ Hid (c = deeps (l.take i)) ∧ Hid (Box wr w.heap.size 28 (richA k d (.slice ao l.length cp))) ∧ Hid (Kept (fun _ => False) w wr)) (fun _ v4 _ => l.length - (intOf v4).toNat)
    case atStart => exact ⟨0, 0, rfl, rfl, Nat.zero_le _, by omega, Lib.hid (by rw [List.take_zero, deeps]), HB, Lib.hid ((Kept.refl _ _).alloc _)⟩
    case round =>
      obtain ⟨i, c, rfl, rfl, hi, hc4, HCi, HBr, HK⟩ := hrel
      rename World => wr
      have b6 : wr.cell? ⟨w.heap.size, 6, none⟩ = some (.slice ao l.length cp) := HBr.out.cell 6
      by_cases hlt : i < l.length
      · obtain ⟨x, hx⟩ : ∃ x, l[i]? = some x := ⟨_, List.getElem?_eq_getElem hlt⟩
        obtain ⟨b, off, ao', cp', rfl, hb, hrx, d0, d1, d2, d3, d4, d5, d6⟩ := (ArgS.kept HK.out ao 0 l HA.out).part hx
        have hct := counts_take hx
        have hcl := counts_take_le l (i + 1)
        have hdc := deep_count x
        have hcx : count x ≤ 40000 := by have := HC.out; omega
        have PC := HI.out x (List.mem_of_getElem? hx) _ wr hrx hcx
        have HN := Lib.hid (show max c (deep x) = deeps (l.take (i + 1)) by rw [deeps_take hx, HCi.out])
        have hdx : deep x ≤ 40000 := by omega
        have hi0 : (0 : Int) ≤ (i : Int) := by omega
        have hiI : (i : Int) < (l.length : Int) := by omega
        generalize deep x = cx at *
        clear hx hrx hct hcl hdc
        have hcm : max c cx = c ∨ max c cx = cx := by omega
        by_cases hle : c ≤ cx
        · have hmx : max (c : Int) (cx : Int) = (cx : Int) := by omega
          have hmI : (c : Int) ≤ (cx : Int) := by omega
          have HN2 := Lib.hid (show cx = deeps (l.take (i + 1)) by rw [← HN.out]; omega)
          clear hcm hle
          go_wp2_with (first
            | (go_at_call 26; refine PC.mono ?_; rintro e w5 ⟨rfl, hk5⟩; have HK := Lib.hid (Kept.trans HK.out hk5 (fun _ _ h => h)); have HBr := Lib.hid (hk5.box HBr.out (fun h => h)); clear hk5)
            | fail)
          go_roundw
          case rel => exact ⟨i + 1, cx, by go_num, by go_num, by omega, hdx, HN2, HBr, HK⟩
          case measure => simp [intOf]; omega
        · have hmx : max (c : Int) (cx : Int) = (c : Int) := by omega
          have hmI : ¬ (c : Int) ≤ (cx : Int) := by omega
          have HN2 := Lib.hid (show c = deeps (l.take (i + 1)) by rw [← HN.out]; omega)
          clear hcm hle
          go_wp2_with (first
            | (go_at_call 26; refine PC.mono ?_; rintro e w5 ⟨rfl, hk5⟩; have HK := Lib.hid (Kept.trans HK.out hk5 (fun _ _ h => h)); have HBr := Lib.hid (hk5.box HBr.out (fun h => h)); clear hk5)
            | fail)
          go_roundw
          case rel => exact ⟨i + 1, c, by go_num, by go_num, by omega, hc4, HN2, HBr, HK⟩
          case measure => simp [intOf]; omega
      · have hge : ¬ (i : Int) < (l.length : Int) := by omega
        have HF := Lib.hid (show ((c : Nat) : Int) + 1 = (deep (.mk k d l) : Int) by
          rw [HCF.out, HCi.out, List.take_of_length_le (by omega)]; rfl)
        go_wp2_with fail
        go_ret
        exact ⟨by rw [← HF.out]; rfl, HK.out⟩
end Go.Proofs.YtoebokgpdkklmaaGreatDoor

namespace Go.Proofs.YtoebokgpdkklmaaGreatDoor
open Go.RowKit Rich

mutual
/-- What much answers: how many parts, and whether they are more than a statement goes over. -/
def muchX : R → Nat → Nat × Bool
  | .mk _ d l, dp => if 20 < dp ∨ 100 < l.length ∨ 500 < d.name.length + d.evr.ver.length ∨ 500 < d.evr.rel.length then (0, true) else muchL l dp 1
def muchL : List R → Nat → Nat → Nat × Bool
  | [], _, n => (n, false)
  | x :: l, dp, n => if (muchX x (dp + 1)).2 = true ∨ 2000 < n + (muchX x (dp + 1)).1 then (0, true) else muchL l dp (n + (muchX x (dp + 1)).1)
end
mutual
/-- Each text, and each row, takes less than 2^47. -/
def fitsX : R → Prop
  | .mk _ d l => d.name.length < 140737488355328 ∧ d.evr.ver.length < 140737488355328 ∧ d.evr.rel.length < 140737488355328 ∧ l.length < 140737488355328 ∧ fitsL l
def fitsL : List R → Prop
  | [] => True
  | x :: l => fitsX x ∧ fitsL l
end
mutual
def smallX : R → Prop
  | .mk _ d l => d.name.length + d.evr.ver.length ≤ 500 ∧ d.evr.rel.length ≤ 500 ∧ l.length ≤ 100 ∧ smallL l
def smallL : List R → Prop
  | [] => True
  | x :: l => smallX x ∧ smallL l
end
theorem fitsL_mem : ∀ {l : List R} {x : R}, fitsL l → x ∈ l → fitsX x
  | y :: l, x, h, hx => by
    rw [fitsL] at h
    rcases List.mem_cons.1 hx with rfl | hx
    · exact h.1
    · exact fitsL_mem h.2 hx
theorem smallL_mem : ∀ {l : List R} {x : R}, smallL l → x ∈ l → smallX x
  | y :: l, x, h, hx => by
    rw [smallL] at h
    rcases List.mem_cons.1 hx with rfl | hx
    · exact h.1
    · exact smallL_mem h.2 hx
mutual
theorem much_le : ∀ (x : R) (dp : Nat), (muchX x dp).1 ≤ 2000 ∧ ((muchX x dp).2 = false → (muchX x dp).1 = count x ∧ smallX x)
  | .mk k d l, dp => by
    rw [muchX]
    split
    · exact ⟨by simp, fun h => by simp at h⟩
    · rename_i hc
      obtain ⟨h1, h2⟩ := muchL_le l dp 1 (by omega)
      refine ⟨h1, fun h => ?_⟩
      obtain ⟨g1, g2⟩ := h2 h
      rw [count, smallX]
      exact ⟨by omega, by omega, by omega, by omega, g2⟩
theorem muchL_le : ∀ (l : List R) (dp n : Nat), n ≤ 2000 → (muchL l dp n).1 ≤ 2000 ∧ ((muchL l dp n).2 = false → (muchL l dp n).1 = n + counts l ∧ smallL l)
  | [], dp, n, hn => by rw [muchL, counts, smallL]; exact ⟨hn, fun _ => ⟨rfl, trivial⟩⟩
  | x :: l, dp, n, hn => by
    rw [muchL]
    split
    · exact ⟨by simp, fun h => by simp at h⟩
    · rename_i hc
      obtain ⟨h1, h2⟩ := much_le x (dp + 1)
      obtain ⟨g1, g2⟩ := muchL_le l dp (n + (muchX x (dp + 1)).1) (by omega)
      refine ⟨g1, fun h => ?_⟩
      obtain ⟨e1, e2⟩ := g2 h
      obtain ⟨f1, f2⟩ := h2 (by cases hb : (muchX x (dp + 1)).2 with | false => rfl | true => exact absurd (.inl hb) hc)
      rw [counts, smallL]
      exact ⟨by omega, f2, e2⟩
end
set_option maxRecDepth 100000 in
set_option maxHeartbeats 2000000 in
theorem much8_walk : ∀ (x : R) (v : Value) (w : World) (dp : Nat), dp ≤ 21 → RichS w x v → fitsX x →
    Calls Tryz.prog 18 #[v, .int .i64 (dp : Int)] w fun e w' => e = .returned (.tuple #[.int .i64 ((muchX x dp).1 : Int), .bool (muchX x dp).2]) ∧ Kept (fun _ => False) w w' := by
  refine R.ind fun k d l ih v w dp hdp hr hf => ?_
  rw [RichS] at hr
  obtain ⟨ao, cp, rfl, hk, ho, hA⟩ := hr
  rw [fitsX] at hf
  obtain ⟨f1, f2, f3, f4, f5⟩ := hf
  have HI := Lib.hid ih
  have HA := Lib.hid hA
  have HFL := Lib.hid f5
  obtain ⟨nm, hnm⟩ : ∃ nm : ByteArray, nm = ⟨d.name.toArray⟩ := ⟨_, rfl⟩
  obtain ⟨vr, hvr⟩ : ∃ vr : ByteArray, vr = ⟨d.evr.ver.toArray⟩ := ⟨_, rfl⟩
  obtain ⟨rl, hrl⟩ : ∃ rl : ByteArray, rl = ⟨d.evr.rel.toArray⟩ := ⟨_, rfl⟩
  have z1 : nm.size = d.name.length := by rw [hnm]; simp [ByteArray.size]
  have z2 : vr.size = d.evr.ver.length := by rw [hvr]; simp [ByteArray.size]
  have z3 : rl.size = d.evr.rel.length := by rw [hrl]; simp [ByteArray.size]
  have hV : richV k d (.slice ao l.length cp) = .agg #[.int .u8 (k : Int), .string nm, .int .u8 (d.op : Int), .int .i64 d.evr.epoch, .string vr, .string rl, .slice ao l.length cp] := by rw [hnm, hvr, hrl]
  rw [hV]
  have hM : muchX (.mk k d l) dp = if 20 < dp ∨ 100 < l.length ∨ 500 < nm.size + vr.size ∨ 500 < rl.size then (0, true) else muchL l dp 1 := by rw [muchX, z1, z2, z3]
  rw [← z1] at f1
  rw [← z2] at f2
  rw [← z3] at f3
  clear ih hA f5 hnm hvr hrl z1 z2 z3 hV
  generalize d.evr.epoch = ep at *
  generalize d.op = op at *
  have HB := Lib.hid (Box.made w 28 #[.int .u8 (k : Int), .string nm, .int .u8 (op : Int), .int .i64 ep, .string vr, .string rl, .slice ao l.length cp])
  by_cases c1 : 20 < dp
  · have HF := Lib.hid (show muchX (.mk k d l) dp = (0, true) by rw [hM, if_pos (.inl c1)])
    have g1 : (20 : Int) < (dp : Int) := by omega
    clear hM c1
    go_enter Tryz.func18, Tryz.ntmps18
    go_wp2_with fail
    go_ret2
    exact ⟨by rw [HF.out]; rfl, (Kept.refl _ _).alloc _⟩
  have g1 : ¬ (20 : Int) < (dp : Int) := by omega
  by_cases c2 : 100 < l.length
  · have HF := Lib.hid (show muchX (.mk k d l) dp = (0, true) by rw [hM, if_pos (.inr (.inl c2))])
    have g2 : (100 : Int) < (l.length : Int) := by omega
    clear hM c1 c2
    go_enter Tryz.func18, Tryz.ntmps18
    go_wp2_with fail
    go_ret2
    exact ⟨by rw [HF.out]; rfl, (Kept.refl _ _).alloc _⟩
  have g2 : ¬ (100 : Int) < (l.length : Int) := by omega
  have gw : IntKind.i64.wrap ((nm.size : Int) + (vr.size : Int)) = (nm.size : Int) + (vr.size : Int) := IntWalk.i64_in _ ⟨by omega, by omega⟩
  by_cases c3 : 500 < nm.size + vr.size
  · have HF := Lib.hid (show muchX (.mk k d l) dp = (0, true) by rw [hM, if_pos (.inr (.inr (.inl c3)))])
    have g3 : (500 : Int) < (nm.size : Int) + (vr.size : Int) := by omega
    clear hM c1 c2 c3
    go_enter Tryz.func18, Tryz.ntmps18
    go_wp2_with fail
    go_ret2
    exact ⟨by rw [HF.out]; rfl, (Kept.refl _ _).alloc _⟩
  have g3 : ¬ (500 : Int) < (nm.size : Int) + (vr.size : Int) := by omega
  by_cases c4 : 500 < rl.size
  · have HF := Lib.hid (show muchX (.mk k d l) dp = (0, true) by rw [hM, if_pos (.inr (.inr (.inr c4)))])
    have g4 : (500 : Int) < (rl.size : Int) := by omega
    clear hM c1 c2 c3 c4
    go_enter Tryz.func18, Tryz.ntmps18
    go_wp2_with fail
    go_ret2
    exact ⟨by rw [HF.out]; rfl, (Kept.refl _ _).alloc _⟩
  have g4 : ¬ (500 : Int) < (rl.size : Int) := by omega
  have HM := Lib.hid (show muchX (.mk k d l) dp = muchL l dp 1 by rw [hM, if_neg (by omega)])
  have hl100 : l.length ≤ 100 := by omega
  have hdp20 : dp ≤ 20 := by omega
  clear hM c1 c2 c3 c4
  go_enter Tryz.func18, Tryz.ntmps18
  go_wp2_with fail
  go_loopw [6, 7] (fun v6 v7 wr => ∃ (i c : Nat), v6 = .int .i64 (c : Int) ∧ v7 = .int .i64 (i : Int) ∧ i ≤ l.length ∧ c ≤ 2000 ∧ Hid (muchX (.mk k d l) dp = muchL (l.drop i) dp c) ∧ Hid (Box wr w.heap.size 28 #[.int .u8 (k : Int), .string nm, .int .u8 (op : Int), .int .i64 ep, .string vr, .string rl, .slice ao l.length cp]) ∧ Hid (Kept (fun _ => False) w wr)) (fun _ v7 _ => l.length - (intOf v7).toNat)
  case atStart => exact ⟨0, 1, rfl, rfl, Nat.zero_le _, by omega, Lib.hid (by rw [List.drop_zero]; exact HM.out), HB, Lib.hid ((Kept.refl _ _).alloc _)⟩
  case round =>
    obtain ⟨i, c, rfl, rfl, hi, hc4, HCi, HBr, HK⟩ := hrel
    rename World => wr
    have b6 : wr.cell? ⟨w.heap.size, 6, none⟩ = some (.slice ao l.length cp) := HBr.out.cell 6
    by_cases hlt : i < l.length
    · obtain ⟨x, hx⟩ : ∃ x, l[i]? = some x := ⟨_, List.getElem?_eq_getElem hlt⟩
      obtain ⟨b, off, ao', cp', rfl, hb, hrx, d0, d1, d2, d3, d4, d5, d6⟩ := (ArgS.kept HK.out ao 0 l HA.out).part hx
      have PC := HI.out x (List.mem_of_getElem? hx) _ wr (dp + 1) (by omega) hrx (fitsL_mem HFL.out (List.mem_of_getElem? hx))
      have hle := (much_le x (dp + 1)).1
      have hdr : l.drop i = x :: l.drop (i + 1) := by
        rw [List.drop_eq_getElem_cons hlt]
        congr 1
        exact (List.getElem?_eq_some_iff.1 hx).2
      have hst := HCi.out
      rw [hdr, muchL] at hst
      have hdc : ((dp + 1 : Nat) : Int) = (dp : Int) + 1 := by omega
      rw [hdc] at PC
      have hi0 : (0 : Int) ≤ (i : Int) := by omega
      have hiI : (i : Int) < (l.length : Int) := by omega
      generalize muchX x (dp + 1) = mx at *
      obtain ⟨m, is⟩ := mx
      simp only at hst hle PC
      clear hx hrx hdr hdc
      cases is with
      | true =>
        have HF := Lib.hid (show muchX (.mk k d l) dp = (0, true) by rw [hst, if_pos (.inl rfl)])
        clear hst
        go_wp2_with (first
          | (go_at_call 18; refine PC.mono ?_; rintro e w5 ⟨rfl, hk5⟩; have HK := Lib.hid (Kept.trans HK.out hk5 (fun _ _ h => h)); clear hk5)
          | fail)
        go_ret2
        exact ⟨by rw [HF.out]; rfl, HK.out⟩
      | false =>
        by_cases hbig : 2000 < c + m
        · have HF := Lib.hid (show muchX (.mk k d l) dp = (0, true) by rw [hst, if_pos (.inr hbig)])
          have hbI : (2000 : Int) < (c : Int) + (m : Int) := by omega
          clear hst hbig
          go_wp2_with (first
            | (go_at_call 18; refine PC.mono ?_; rintro e w5 ⟨rfl, hk5⟩; have HK := Lib.hid (Kept.trans HK.out hk5 (fun _ _ h => h)); clear hk5)
            | fail)
          go_ret2
          exact ⟨by rw [HF.out]; rfl, HK.out⟩
        · have HN := Lib.hid (show muchX (.mk k d l) dp = muchL (l.drop (i + 1)) dp (c + m) by rw [hst, if_neg (by simp; omega)])
          have hbI : ¬ (2000 : Int) < (c : Int) + (m : Int) := by omega
          have hcn : c + m ≤ 2000 := by omega
          clear hst hbig
          go_wp2_with (first
            | (go_at_call 18; refine PC.mono ?_; rintro e w5 ⟨rfl, hk5⟩; have HK := Lib.hid (Kept.trans HK.out hk5 (fun _ _ h => h)); have HBr := Lib.hid (hk5.box HBr.out (fun h => h)); clear hk5)
            | fail)
          go_roundw
          case rel => exact ⟨i + 1, c + m, by go_num, by go_num, by omega, hcn, HN, HBr, HK⟩
          case measure => simp [intOf]; omega
    · have hge : ¬ (i : Int) < (l.length : Int) := by omega
      have HF := Lib.hid (show muchX (.mk k d l) dp = (c, false) by
        rw [HCi.out, List.drop_of_length_le (by omega), muchL])
      go_wp2_with fail
      go_ret2
      exact ⟨by rw [HF.out]; rfl, HK.out⟩
set_option maxRecDepth 100000 in
set_option maxHeartbeats 2000000 in
theorem large8_walk (x : R) (v : Value) (w : World) (hr : RichS w x v) (hf : fitsX x) :
    Calls Tryz.prog 5 #[v] w fun e w' => e = .returned (.bool (muchX x 0).2) ∧ Kept (fun _ => False) w w' := by
  have MC := fun W (hk : Kept (fun _ => False) w W) => much8_walk x v W 0 (by omega) (RichS.kept hk x v hr) hf
  generalize muchX x 0 = mx at *
  obtain ⟨m, is⟩ := mx
  obtain ⟨k, d, l⟩ := x
  rw [RichS] at hr
  obtain ⟨ao, cp, rfl, _⟩ := hr
  go_enter Tryz.func5, Tryz.ntmps5
  go_wp2_with (first
    | (go_at_call 18; (first | (refine (MC _ (Kept.refl _ _)).mono ?_) | (refine (MC _ ((Kept.refl _ _).alloc _)).mono ?_)); rintro e w5 ⟨rfl, hk5⟩)
    | fail)
  go_ret
  exact ⟨rfl, by first | exact hk5 | exact ((Kept.refl _ _).alloc _).trans hk5 (fun _ _ h => h)⟩
end Go.Proofs.YtoebokgpdkklmaaGreatDoor
