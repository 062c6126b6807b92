/-
  The walks over the program's own text of layer 8: how many Args there may be, the Kind of a word. Conditions: the table lies as the program's text lays it. Words in memory: a row of words with places, slices of them; joined words as texts. Nothing of the program is named here. The walks over the program's own text of layer 4: the map of the Ops' texts, and what is found in it. The walks over the program's own text of layer 4: the rows of the Ops, out of the map in whatever order; an Op's row; an Op's text; the Op of a text. Conditions: as each theorem states.
-/
import Derived.Test.YtlagnebgoclaeaaGreatDoorK09
import Derived.Deep.MidRow
import Derived.Test.YtlagnebgoclaeaaGreatDoorK03
import Derived.Test.YtlagnebgoclaeaaGreatDoorK04
import Derived.Handy
import Derived.Lib.Hide
import Derived.Test.YtlagnebgoclaeaaGreatDoorK02
import Derived.Test.YtlagnebgoclaeaaGreatDoorRows
import Derived.Maps.RangeWalk
import Derived.Maps.OwnSet
import Derived.StringKeys
import Derived.LoopTactic
import Derived.Sort.MapsRangeIn
namespace Go.Proofs.YtlagnebgoclaeaaGreatDoor
open Go.RowKit Rich

theorem aheadP_int (k i : Nat) (z : Int) (hz : z = (i : Int)) (hk : k < 256) (w : World) (hW : RowsW w) :
    Calls Tryz.prog 37 #[.int .u8 (k : Int), .int .i64 z] w fun e w' => e = .returned (.string ⟨(aheadW k i).toArray⟩) ∧ w' = w := by
  subst hz
  exact aheadP_walk k i hk w hW
set_option maxRecDepth 100000 in
set_option maxHeartbeats 2000000 in
theorem mayArgs_walk (k n : Nat) (b : Bool) (hk : k < 256) (hn : n ≤ maxLen) (hb : (decide (2 ≤ n) && decide (aheadW k (n - 1) ≠ [])) = b) (w : World) (hW : RowsW w) :
    Calls Tryz.prog 44 #[.int .u8 (k : Int), .int .i64 (n : Int)] w fun e w' => e = .returned (.bool b) ∧ w' = w := by
  unfold maxLen at hn
  by_cases h2 : 2 ≤ n
  · have h2' : (2 : Int) ≤ (n : Int) := by omega
    have AC := fun z W hz (hw : RowsW W) => aheadP_int k (n - 1) z hz hk W hw
    have hE : (aheadW k (n - 1)).isEmpty = decide (aheadW k (n - 1) = []) := by cases aheadW k (n - 1) <;> rfl
    have HF := Lib.hid (show b = !(aheadW k (n - 1)).isEmpty by rw [← hb, decide_eq_true h2, hE]; simp)
    have HW := Lib.hid hW
    have hz : ((n : Int) - 1) = ((n - 1 : Nat) : Int) := by omega
    have HZ := Lib.hid hz
    clear hz h2 hW hb hE
    generalize aheadW k (n - 1) = a at *
    go_enter Tryz.func44, Tryz.ntmps44
    go_wp2_with (first
      | (go_at_call 37; refine (AC _ _ HZ.out HW.out).mono ?_; rintro e w1 ⟨rfl, rfl⟩)
      | fail)
    go_ret
    exact ⟨by rw [HF.out]; rfl, rfl⟩
  · have HF := Lib.hid (show b = false by rw [← hb, decide_eq_false h2]; rfl)
    have h2' : (n : Int) < 2 := by omega
    clear h2 hb
    go_enter Tryz.func44, Tryz.ntmps44
    go_wp2_with fail
    go_ret
    exact ⟨by rw [HF.out]; rfl, rfl⟩
/-- No word among the first i Kinds' is this one. -/
def noKind (s : List UInt8) (i : Nat) : Prop := ∀ j, j < i → wordK j ≠ s
theorem kind_found {s : List UInt8} {i : Nat} (hi : i < 8) (h : noKind s i) (he : wordK i = s) : kindW s = i := by
  subst he
  have : i = 0 ∨ i = 1 ∨ i = 2 ∨ i = 3 ∨ i = 4 ∨ i = 5 ∨ i = 6 ∨ i = 7 := by omega
  rcases this with rfl | rfl | rfl | rfl | rfl | rfl | rfl | rfl
  · decide
  · exact absurd rfl (h 0 (by omega))
  all_goals decide
theorem kind_none {s : List UInt8} (h : noKind s 8) : kindW s = 0 := by
  unfold kindW
  rw [if_neg (fun e => h 2 (by omega) e.symm), if_neg (fun e => h 3 (by omega) e.symm), if_neg (fun e => h 4 (by omega) e.symm), if_neg (fun e => h 5 (by omega) e.symm), if_neg (fun e => h 6 (by omega) e.symm), if_neg (fun e => h 7 (by omega) e.symm)]
theorem rows_index : ∀ (i : Nat) (_ : i < 8) (W : World), (Instr.index 105 rowsV (.int .i64 (i : Int))).run Tryz.prog W = .ok (rowV i) W
  | 0, _, W => by kernel_rfl
  | 1, _, W => by kernel_rfl
  | 2, _, W => by kernel_rfl
  | 3, _, W => by kernel_rfl
  | 4, _, W => by kernel_rfl
  | 5, _, W => by kernel_rfl
  | 6, _, W => by kernel_rfl
  | 7, _, W => by kernel_rfl
theorem rows_range {W : World} (h : RowsW W) : W.rangeAt 0 0 rowsL := fun j v hj => by
    rw [Nat.zero_add]
    exact match j, hj with
    | 0, hj => by injection hj with hj; subst hj; exact h.at0 0 (by omega)
    | 1, hj => by injection hj with hj; subst hj; exact h.at1 0 (by omega)
    | 2, hj => by injection hj with hj; subst hj; exact h.at2 0 (by omega)
    | 3, hj => by injection hj with hj; subst hj; exact h.at0 1 (by omega)
    | 4, hj => by injection hj with hj; subst hj; exact h.at1 1 (by omega)
    | 5, hj => by injection hj with hj; subst hj; exact h.at2 1 (by omega)
    | 6, hj => by injection hj with hj; subst hj; exact h.at0 2 (by omega)
    | 7, hj => by injection hj with hj; subst hj; exact h.at1 2 (by omega)
    | 8, hj => by injection hj with hj; subst hj; exact h.at2 2 (by omega)
    | 9, hj => by injection hj with hj; subst hj; exact h.at0 3 (by omega)
    | 10, hj => by injection hj with hj; subst hj; exact h.at1 3 (by omega)
    | 11, hj => by injection hj with hj; subst hj; exact h.at2 3 (by omega)
    | 12, hj => by injection hj with hj; subst hj; exact h.at0 4 (by omega)
    | 13, hj => by injection hj with hj; subst hj; exact h.at1 4 (by omega)
    | 14, hj => by injection hj with hj; subst hj; exact h.at2 4 (by omega)
    | 15, hj => by injection hj with hj; subst hj; exact h.at0 5 (by omega)
    | 16, hj => by injection hj with hj; subst hj; exact h.at1 5 (by omega)
    | 17, hj => by injection hj with hj; subst hj; exact h.at2 5 (by omega)
    | 18, hj => by injection hj with hj; subst hj; exact h.at0 6 (by omega)
    | 19, hj => by injection hj with hj; subst hj; exact h.at1 6 (by omega)
    | 20, hj => by injection hj with hj; subst hj; exact h.at2 6 (by omega)
    | 21, hj => by injection hj with hj; subst hj; exact h.at0 7 (by omega)
    | 22, hj => by injection hj with hj; subst hj; exact h.at1 7 (by omega)
    | 23, hj => by injection hj with hj; subst hj; exact h.at2 7 (by omega)
    | j + 24, hj => by simp [rowsL] at hj
theorem kind_lt (i : Nat) (hi : i < 8) : IntKind.u8.wrap (i : Int) = (i : Int) := by
  have : i = 0 ∨ i = 1 ∨ i = 2 ∨ i = 3 ∨ i = 4 ∨ i = 5 ∨ i = 6 ∨ i = 7 := by omega
  rcases this with rfl | rfl | rfl | rfl | rfl | rfl | rfl | rfl <;> decide
theorem wordB_eq (i : Nat) (s : ByteArray) : ((wordB i).toList == s.toList) = decide (wordK i = s.data.toList) := by
  rw [ByteArray.toList_eq, ByteArray.toList_eq, Bool.eq_iff_iff]
  simp [wordB]
set_option maxRecDepth 100000 in
set_option maxHeartbeats 2000000 in
theorem kindP_walk (s : ByteArray) (w : World) (hW : RowsW w) :
    Calls Tryz.prog 87 #[.string s] w fun e w' => e = .returned (.int .u8 (kindW s.data.toList : Int)) ∧ Kept (fun _ => False) w w' := by
  have HI := Lib.hid rows_index
  have HG := Lib.hid (rows_range hW)
  have HN0 := Lib.hid (show (Tryz.prog.info? 105).map (·.size) = some rowsL.length by kernel_rfl)
  clear hW
  unfold rowsV at HI
  generalize rowsL = rl at *
  go_enter Tryz.func87, Tryz.ntmps87
  go_wp2_with (refine wpList_load_mid rfl 105 _ rfl 0 0 rfl rl _ HG.out Tryz.underlying105 rfl HN0.out ?_)
  go_loopw [6] (fun v6 wr => ∃ i : Nat, v6 = .int .i64 (i : Int) ∧ i ≤ 8 ∧ Hid (noKind s.data.toList i) ∧ Hid (Kept (fun _ => False) w wr)) (fun v6 _ => 8 - (intOf v6).toNat)
  case atStart => exact ⟨0, rfl, Nat.zero_le _, Lib.hid (fun j hj => by omega), Lib.hid (Kept.refl _ _)⟩
  case round =>
    obtain ⟨i, rfl, hi, HN, HK⟩ := hrel
    by_cases hlt : i < 8
    · have hltI : (i : Int) < 8 := by omega
      have hx := HI.out i hlt
      have hwr := kind_lt i hlt
      have HQ := Lib.hid (wordB_eq i s)
      by_cases he : wordK i = s.data.toList
      · have hb : ((wordB i).toList == s.toList) = true := by rw [HQ.out]; exact decide_eq_true he
        have HF := Lib.hid (kind_found hlt HN.out he)
        unfold rowV at hx
        generalize wordB i = wb at *
        generalize furB i = fb at *
        generalize (mostK i : Int) = mb at *
        clear hlt he
        go_wp2_with fail
        go_ret
        exact ⟨by rw [HF.out]; rfl, HK.out.alloc _⟩
      · have hb : ((wordB i).toList == s.toList) = false := by rw [HQ.out]; exact decide_eq_false he
        have HF := Lib.hid (show noKind s.data.toList (i + 1) from fun j hj => by
          by_cases hji : j = i
          · rw [hji]; exact he
          · exact HN.out j (by omega))
        unfold rowV at hx
        generalize wordB i = wb at *
        generalize furB i = fb at *
        generalize (mostK i : Int) = mb at *
        clear hlt he
        go_wp2_with fail
        go_roundw
        case rel => exact ⟨i + 1, by go_num, by omega, HF, Lib.hid (HK.out.alloc _)⟩
        case measure => simp [intOf]; omega
    · obtain rfl : i = 8 := by omega
      have HF := Lib.hid (kind_none HN.out)
      go_wp2_with fail
      go_ret
      exact ⟨by rw [HF.out]; rfl, HK.out⟩
end Go.Proofs.YtlagnebgoclaeaaGreatDoor

namespace Go.Proofs.YtlagnebgoclaeaaGreatDoor
open Go.RowKit Lex

/-- Words as cells. -/
def cellsW : List Wd → List Value
  | [] => []
  | p :: l => .string ⟨p.1.toArray⟩ :: .int .i64 (p.2 : Int) :: cellsW l
theorem cellsW_app : ∀ a b : List Wd, cellsW (a ++ b) = cellsW a ++ cellsW b
  | [], _ => rfl
  | p :: a, b => by simp [cellsW, cellsW_app a b]
theorem cellsW_len : ∀ a : List Wd, (cellsW a).length = a.length * 2
  | [] => rfl
  | p :: a => by simp [cellsW, cellsW_len a]; omega
theorem cellsW_one : ∀ a : List Wd, ∀ u ∈ cellsW a, u.oneCell' = true
  | [], u, h => by simp [cellsW] at h
  | p :: a, u, h => by
    simp only [cellsW, List.mem_cons] at h
    rcases h with h | h | h
    · rw [h]; rfl
    · rw [h]; rfl
    · exact cellsW_one a u h
theorem cellsW_at : ∀ (l : List Wd) (i : Nat) (p : Wd), l[i]? = some p → (cellsW l)[i * 2]? = some (.string ⟨p.1.toArray⟩) ∧ (cellsW l)[i * 2 + 1]? = some (.int .i64 (p.2 : Int))
  | [], _, _, h => by simp at h
  | e :: l, 0, d, h => by
    injection h with h
    subst h
    exact ⟨rfl, rfl⟩
  | e :: l, i + 1, d, h => by
    have := cellsW_at l i d (by simpa using h)
    have e0 : (i + 1) * 2 = i * 2 + 1 + 1 := by omega
    rw [e0]
    simpa [cellsW] using this
theorem cellsW_set (done : List Wd) (t t' : List UInt8) (q : Nat) : (cellsW (done ++ [(t, q)])).set (done.length * 2) (.string ⟨t'.toArray⟩) = cellsW (done ++ [(t', q)]) := by
  rw [cellsW_app, cellsW_app, List.set_append_right _ _ (by rw [cellsW_len]; exact Nat.le_refl _), cellsW_len, Nat.sub_self]
  rfl
theorem new_word (W : World) (g : Nat) (hg : g = W.heap.size) (t : TypeId) (p : Wd) :
    ∀ (j : Nat) (u : Value), (cellsW [p])[j]? = some u → (W.alloc (.cells #[.string ⟨p.1.toArray⟩, .int .i64 (p.2 : Int)] t)).cell? ((⟨g, 0, none⟩ : Addr).add j) = some u := by
  intro j u hj
  subst hg
  match j, hj with
  | 0, hj => simp [cellsW] at hj; subst hj; simp [Addr.add]
  | 1, hj => simp [cellsW] at hj; subst hj; simp [Addr.add]
theorem words_push {w wr w1 : World} {ty : TypeId} {v v' : Value} {done : List Wd} {p : Wd} {o o' : Obj} {n : Nat} {cs : List Value} (hkp : Kept (fun _ => False) w wr) (hown : wr.ownsRow w.heap.size ty 2 v done.length (cellsW done))
    (h : w1.ownsRow w.heap.size ty 2 v' n cs) (hn : n = done.length + 1) (hc : cs = cellsW done ++ cellsW [p]) (hg : ((wr.alloc o).alloc o').grownBy w1 v.ownBlock) :
    w1.ownsRow w.heap.size ty 2 v' (done ++ [p]).length (cellsW (done ++ [p])) ∧ Kept (fun _ => False) w w1 :=
  ⟨by subst hn; subst hc; rw [cellsW_app, List.length_append]; exact h, ((hkp.alloc o).alloc o').grown hg (fun i hi => .inr (hown.lt i hi).1)⟩

theorem drop_here {α : Type} {s : List α} {i : Nat} {b : α} (hb : s[i]? = some b) : s.drop i = b :: s.drop (i + 1) := by
  have hi : i < s.length := (List.getElem?_eq_some_iff.1 hb).1
  rw [List.drop_eq_getElem_cons hi, (List.getElem?_eq_some_iff.1 hb).2]
theorem app_list7 (x y : ByteArray) : (x ++ y).data.toList = x.data.toList ++ y.data.toList := by simp [ByteArray.data_append]
def Prev7 (xs : List ByteArray) (i : Nat) (y : Option (List UInt8)) : Prop := (i = 0 ∧ y = none) ∨ ∃ j z, i = j + 1 ∧ xs[j]? = some z ∧ y = some z.data.toList
abbrev bytesL (xs : List ByteArray) : List (List UInt8) := xs.map (·.data.toList)
theorem eq_lit (x : ByteArray) (l : List UInt8) : (x.toList == l) = decide (x.data.toList = l) := by
  rw [ByteArray.toList_eq]
  by_cases h : x.data.toList = l
  · simp [h]
  · rw [decide_eq_false h, beq_eq_false_iff_ne]
    exact h
/-- A slice of words; of whole numbers. -/
def WdS (w : World) (v : Value) (ws : List Wd) : Prop := ∃ ao cp, v = .slice ao ws.length cp ∧ ∀ (j : Nat) p, ws[j]? = some p → ∃ g, ao = some ⟨g, 0, none⟩ ∧ w.cell? ⟨g, j * 2, none⟩ = some (.string ⟨p.1.toArray⟩) ∧ w.cell? ⟨g, j * 2 + 1, none⟩ = some (.int .i64 (p.2 : Int)) ∧ g < w.heap.size
theorem own_words {w : World} {base : Nat} {e : TypeId} {v : Value} {l : List Wd} (h : w.ownsRow base e 2 v l.length (cellsW l)) : WdS w v l := by
  rcases h.2 with ⟨hv, hn⟩ | ⟨g, cap, cur, rfl, _⟩
  · exact ⟨none, 0, by rw [hv, hn], fun j p hj => by have := (List.getElem?_eq_some_iff.1 hj).1; omega⟩
  · refine ⟨_, cap, rfl, fun j p hj => ⟨g, rfl, ?_⟩⟩
    obtain ⟨c0, c1⟩ := cellsW_at l j p hj
    exact ⟨(own_cell h c0).1, (own_cell h c1).1, (own_cell h c0).2⟩
/-- Such a slice, with its room. -/
def WdC (w : World) (v : Value) (ws : List Wd) : Prop := WdS w v ws ∧ ∃ a n c, v = .slice a n c ∧ n ≤ c
theorem own_wordsC {w : World} {base : Nat} {e : TypeId} {v : Value} {l : List Wd} (h : w.ownsRow base e 2 v l.length (cellsW l)) : WdC w v l := by
  refine ⟨own_words h, ?_⟩
  rcases h.2 with ⟨hv, hn⟩ | ⟨g, cap, cur, hv, _, _, hc, _⟩
  · exact ⟨none, 0, 0, hv, Nat.le_refl _⟩
  · exact ⟨_, _, _, hv, hc⟩
theorem nil_wordsC (w : World) : WdC w (.slice none 0 0) [] := ⟨⟨none, 0, rfl, fun j p hj => by simp at hj⟩, none, 0, 0, rfl, Nat.le_refl _⟩
theorem WdS.kept {w w' : World} {v : Value} {ws : List Wd} (h : WdS w v ws) (hk : Kept (fun _ => False) w w') : WdS w' v ws := by
  obtain ⟨ao, cp, e, h⟩ := h
  refine ⟨ao, cp, e, fun j p hj => ?_⟩
  obtain ⟨g, e1, c0, c1, hl⟩ := h j p hj
  exact ⟨g, e1, (hk.cell (p := ⟨g, j * 2, none⟩) hl (fun h => h)).trans c0, (hk.cell (p := ⟨g, j * 2 + 1, none⟩) hl (fun h => h)).trans c1, Nat.lt_of_lt_of_le hl hk.size⟩
def IntS (w : World) (v : Value) (zs : List Int) : Prop := ∃ ao cp, v = .slice ao zs.length cp ∧ ∀ j z, zs[j]? = some z → ∃ a : Addr, ao = some a ∧ w.cell? (a.add j) = some (.int .i64 z) ∧ a.block < w.heap.size
theorem IntS.kept {w w' : World} {v : Value} {zs : List Int} (h : IntS w v zs) (hk : Kept (fun _ => False) w w') : IntS w' v zs := by
  obtain ⟨ao, cp, e, h⟩ := h
  refine ⟨ao, cp, e, fun j z hj => ?_⟩
  obtain ⟨a, e1, c0, hl⟩ := h j z hj
  exact ⟨a, e1, (hk.cell (p := a.add j) (by rw [add_block]; exact hl) (fun h => h)).trans c0, Nat.lt_of_lt_of_le hl hk.size⟩
abbrev textsW (ws : List Wd) : List ByteArray := ws.map fun p => ⟨p.1.toArray⟩
abbrev placesW (ws : List Wd) : List Int := ws.map fun p => (p.2 : Int)
end Go.Proofs.YtlagnebgoclaeaaGreatDoor

namespace Go.Proofs.YtlagnebgoclaeaaGreatDoor
open Go.RowKit Go.Maps Span

/-- An entry of a map literal, laid. -/
theorem wpList_entry_own {H : Type} {P : Program} (w : World) {ops : Array Oper} {rest : List Oper} {o : Oper} {a : Act} {Q : Exit → Act → World → Prop}
    (hg : o.guard = none) (m x v : Operand) (t : TypeId) (hop : o.op = Op.insert t m x v)
    (k e : TypeId) (K : Keyed P k) (ht : P.underlying t = some (.map k e)) (R : Value → Option (DataW H × List MemPlace)) (b n : Nat) (D : DataW H)
    (hm : a.eval m = .map (some b)) (hown : w.ownsMap P k R b n D) (hn : n < maxLen) (key val : Value) (kl : Lit) (hx : a.eval x = key) (hv : a.eval v = val) (hkey : keyOf P k key = some kl)
    (d : DataW H) (ps : List MemPlace) (hval : R val = some (d, ps))
    (hK : ∀ w', w'.ownsMap P k R b (n + 1) (D.put kl d) → w.grownBy w' (some b) → wpList P ops Q rest (a.put o.dst undef) w') :
    wpList P ops Q (o :: rest) a w := by
  refine wpList_plain hg fun K2 hK2 => ?_
  obtain ⟨w2, hrun, h1, h2⟩ := hown.update K ht hn hkey hval
  unfold Oper.wp
  simp [execOp, hop, hm, hx, hv, hrun, Result.andThen]
  exact hK2 _ _ (hK w2 h1 h2)

theorem key_law : Keyed Tryz.prog 9 := string_keyed Tryz.underlying9
/-- The six texts, with their Ops. -/
def opsD : DataW Unit := .map [(.string [], .lit (.int .u8 0)), (.string [60], .lit (.int .u8 1)), (.string [60, 61], .lit (.int .u8 3)), (.string [61], .lit (.int .u8 2)), (.string [62], .lit (.int .u8 4)), (.string [62, 61], .lit (.int .u8 6))]
abbrev OpsAt (w : World) (b : Nat) : Prop := w.ownsMap Tryz.prog 9 (plainElem Tryz.prog 5) b 6 opsD
theorem ops_put : (((((((.map [] : DataW Unit).put (.string []) (.lit (.int .u8 0))).put (.string [60]) (.lit (.int .u8 1))).put (.string [61]) (.lit (.int .u8 2))).put (.string [62]) (.lit (.int .u8 4))).put (.string [60, 61]) (.lit (.int .u8 3))).put (.string [62, 61]) (.lit (.int .u8 6))) = opsD := by rfl
theorem key_of (l : ByteArray) (h : l.size ≤ maxLen) : keyOf Tryz.prog 9 (.string l) = some (.string l.data.toList) := Go.WideMaps.keyOf_string_mk Tryz.underlying9 h
theorem elem_of (n : Int) (h : (Lit.int .u8 n).wf = true) : plainElem (H := Unit) Tryz.prog 5 (.int .u8 n) = some (.lit (.int .u8 n), []) := plainElem_int Tryz.underlying5 h

set_option maxRecDepth 100000 in
theorem map_walk (w : World) : Calls Tryz.prog 93 #[] w fun e w' => e = .returned (.map (some w.heap.size)) ∧ OpsAt w' w.heap.size ∧ Kept (fun _ => False) w w' := by
  have hmm := @run_makeMap Tryz.prog
  have h0 := World.ownsMap_made (H := Unit) w Tryz.prog 9 (plainElem Tryz.prog 5)
  have hk0 := (Kept.refl (fun _ => False) w).alloc (.map #[] 0)
  have HO := Lib.hid h0
  have HK := Lib.hid hk0
  clear h0 hk0
  go_enter Tryz.func93, Tryz.ntmps93
  go_wp2_with (first
    | (refine wpList_entry_own _ rfl _ _ _ 129 rfl 9 5 key_law Tryz.underlying129 _ w.heap.size _ _ rfl HO.out (by decide) _ _ _ rfl rfl (key_of _ (by decide)) _ [] (elem_of _ (by decide)) ?_; intro w1 hown1 hg1; have HO := Lib.hid hown1; have HK := Lib.hid (Kept.grown HK.out hg1 (fun j hj => by cases hj; exact .inr (Nat.le_refl _))); clear hown1 hg1)
    | go_in)
  go_ret
  exact ⟨rfl, by have h := HO.out; rw [ops_put] at h; exact h, HK.out⟩
end Go.Proofs.YtlagnebgoclaeaaGreatDoor

namespace Go.Proofs.YtlagnebgoclaeaaGreatDoor
open Go.RowKit Go.Maps Span

/-- Which rows are written, as the entries still to come tell. -/
def laidO (left : Lit → Bool) (i : Nat) : Bool := mayO i && !left (.string (textO i).data.toList)
def rowF (f : Nat → Bool) : Array Value := #[.bool (f 0), .string (if f 0 then textO 0 else ⟨#[]⟩), .bool (f 1), .string (if f 1 then textO 1 else ⟨#[]⟩), .bool (f 2), .string (if f 2 then textO 2 else ⟨#[]⟩), .bool (f 3), .string (if f 3 then textO 3 else ⟨#[]⟩),
  .bool (f 4), .string (if f 4 then textO 4 else ⟨#[]⟩), .bool (f 5), .string (if f 5 then textO 5 else ⟨#[]⟩), .bool (f 6), .string (if f 6 then textO 6 else ⟨#[]⟩), .bool (f 7), .string (if f 7 then textO 7 else ⟨#[]⟩)]
theorem row_start : rowF (laidO (Maps.has opsD)) = #[.bool false, .string ⟨#[]⟩, .bool false, .string ⟨#[]⟩, .bool false, .string ⟨#[]⟩, .bool false, .string ⟨#[]⟩, .bool false, .string ⟨#[]⟩, .bool false, .string ⟨#[]⟩, .bool false, .string ⟨#[]⟩, .bool false, .string ⟨#[]⟩] := by rfl
theorem row_end {left : Lit → Bool} (h : ∀ kl, left kl = false) : rowF (laidO left) = rowF mayO := by
  have : laidO left = mayO := funext fun i => by unfold laidO; rw [h]; simp
  rw [this]
theorem laid_step (left : Lit → Bool) (k : List UInt8) (j : Nat) : laidO (fun z => left z && !z.sameKey (.string k)) j = (laidO left j || (mayO j && ((textO j).data.toList == k))) := by
  unfold laidO
  show (mayO j && !(left _ && !((textO j).data.toList == k))) = _
  cases mayO j <;> cases left (.string (textO j).data.toList) <;> cases ((textO j).data.toList == k) <;> rfl
theorem row_ext {f g : Nat → Bool} (h : ∀ i, i < 8 → f i = g i) : rowF f = rowF g := by
  unfold rowF
  rw [h 0 (by omega), h 1 (by omega), h 2 (by omega), h 3 (by omega), h 4 (by omega), h 5 (by omega), h 6 (by omega), h 7 (by omega)]
/-- A key and its element are one of the six. -/
theorem six (l : List UInt8) (c : Int) (h : ∀ zd, opsD.atKey (.string l) zd = .lit (.int .u8 c)) :
    (l = [] ∧ c = 0) ∨ (l = [60] ∧ c = 1) ∨ (l = [60, 61] ∧ c = 3) ∨ (l = [61] ∧ c = 2) ∨ (l = [62] ∧ c = 4) ∨ (l = [62, 61] ∧ c = 6) := by
  have h := h .nil
  by_cases e1 : l = []
  · subst e1; injection h with h; injection h with _ h; exact .inl ⟨rfl, h.symm⟩
  by_cases e2 : l = [60]
  · subst e2; injection h with h; injection h with _ h; exact .inr (.inl ⟨rfl, h.symm⟩)
  by_cases e3 : l = [60, 61]
  · subst e3; injection h with h; injection h with _ h; exact .inr (.inr (.inl ⟨rfl, h.symm⟩))
  by_cases e4 : l = [61]
  · subst e4; injection h with h; injection h with _ h; exact .inr (.inr (.inr (.inl ⟨rfl, h.symm⟩)))
  by_cases e5 : l = [62]
  · subst e5; injection h with h; injection h with _ h; exact .inr (.inr (.inr (.inr (.inl ⟨rfl, h.symm⟩))))
  by_cases e6 : l = [62, 61]
  · subst e6; injection h with h; injection h with _ h; exact .inr (.inr (.inr (.inr (.inr ⟨rfl, h.symm⟩))))
  exfalso
  have g : ∀ k : List UInt8, ¬ l = k → (k == l) = false := fun k hk => beq_eq_false_iff_ne.2 (fun e => hk e.symm)
  simp only [opsD, DataW.atKey, List.find?, Lit.sameKey, g _ e1, g _ e2, g _ e3, g _ e4, g _ e5, g _ e6] at h
  cases h
/-- A row is written. -/
theorem row_zero (left : Lit → Bool) : ((rowF (laidO left)).setIfInBounds 0 (.bool true)).setIfInBounds 1 (.string ⟨#[]⟩) = rowF (laidO fun z => left z && !z.sameKey (.string [])) := by
  rw [row_ext (f := laidO fun z => left z && !z.sameKey (.string [])) (g := fun i => if i = 0 then true else laidO left i) (fun i hi => by
    rw [laid_step]
    have : i = 0 ∨ i = 1 ∨ i = 2 ∨ i = 3 ∨ i = 4 ∨ i = 5 ∨ i = 6 ∨ i = 7 := by omega
    rcases this with rfl | rfl | rfl | rfl | rfl | rfl | rfl | rfl <;> simp [mayO, textO, laidO])]
  rfl
theorem row_one (left : Lit → Bool) : ((rowF (laidO left)).setIfInBounds 2 (.bool true)).setIfInBounds 3 (.string ⟨#[60]⟩) = rowF (laidO fun z => left z && !z.sameKey (.string [60])) := by
  rw [row_ext (f := laidO fun z => left z && !z.sameKey (.string [60])) (g := fun i => if i = 1 then true else laidO left i) (fun i hi => by
    rw [laid_step]
    have : i = 0 ∨ i = 1 ∨ i = 2 ∨ i = 3 ∨ i = 4 ∨ i = 5 ∨ i = 6 ∨ i = 7 := by omega
    rcases this with rfl | rfl | rfl | rfl | rfl | rfl | rfl | rfl <;> simp [mayO, textO, laidO])]
  rfl
theorem row_two (left : Lit → Bool) : ((rowF (laidO left)).setIfInBounds 4 (.bool true)).setIfInBounds 5 (.string ⟨#[61]⟩) = rowF (laidO fun z => left z && !z.sameKey (.string [61])) := by
  rw [row_ext (f := laidO fun z => left z && !z.sameKey (.string [61])) (g := fun i => if i = 2 then true else laidO left i) (fun i hi => by
    rw [laid_step]
    have : i = 0 ∨ i = 1 ∨ i = 2 ∨ i = 3 ∨ i = 4 ∨ i = 5 ∨ i = 6 ∨ i = 7 := by omega
    rcases this with rfl | rfl | rfl | rfl | rfl | rfl | rfl | rfl <;> simp [mayO, textO, laidO])]
  rfl
theorem row_three (left : Lit → Bool) : ((rowF (laidO left)).setIfInBounds 6 (.bool true)).setIfInBounds 7 (.string ⟨#[60, 61]⟩) = rowF (laidO fun z => left z && !z.sameKey (.string [60, 61])) := by
  rw [row_ext (f := laidO fun z => left z && !z.sameKey (.string [60, 61])) (g := fun i => if i = 3 then true else laidO left i) (fun i hi => by
    rw [laid_step]
    have : i = 0 ∨ i = 1 ∨ i = 2 ∨ i = 3 ∨ i = 4 ∨ i = 5 ∨ i = 6 ∨ i = 7 := by omega
    rcases this with rfl | rfl | rfl | rfl | rfl | rfl | rfl | rfl <;> simp [mayO, textO, laidO])]
  rfl
theorem row_four (left : Lit → Bool) : ((rowF (laidO left)).setIfInBounds 8 (.bool true)).setIfInBounds 9 (.string ⟨#[62]⟩) = rowF (laidO fun z => left z && !z.sameKey (.string [62])) := by
  rw [row_ext (f := laidO fun z => left z && !z.sameKey (.string [62])) (g := fun i => if i = 4 then true else laidO left i) (fun i hi => by
    rw [laid_step]
    have : i = 0 ∨ i = 1 ∨ i = 2 ∨ i = 3 ∨ i = 4 ∨ i = 5 ∨ i = 6 ∨ i = 7 := by omega
    rcases this with rfl | rfl | rfl | rfl | rfl | rfl | rfl | rfl <;> simp [mayO, textO, laidO])]
  rfl
theorem row_six (left : Lit → Bool) : ((rowF (laidO left)).setIfInBounds 12 (.bool true)).setIfInBounds 13 (.string ⟨#[62, 61]⟩) = rowF (laidO fun z => left z && !z.sameKey (.string [62, 61])) := by
  rw [row_ext (f := laidO fun z => left z && !z.sameKey (.string [62, 61])) (g := fun i => if i = 6 then true else laidO left i) (fun i hi => by
    rw [laid_step]
    have : i = 0 ∨ i = 1 ∨ i = 2 ∨ i = 3 ∨ i = 4 ∨ i = 5 ∨ i = 6 ∨ i = 7 := by omega
    rcases this with rfl | rfl | rfl | rfl | rfl | rfl | rfl | rfl <;> simp [mayO, textO, laidO])]
  rfl
theorem grown_cell (w : World) (p : Addr) (v : Value) : w.grownBy (w.setCell p v) (some p.block) :=
  ⟨rfl, rfl, rfl, by simp [World.setCell], fun i _ hi => Below.heap_setCell w p v i (fun e => hi (by rw [e]))⟩
theorem box_apart {w : World} {g : Nat} {t : TypeId} {cs : Array Value} {p : Addr} (h : Box w g t cs) (hne : g ≠ p.block) (v : Value) : Box (w.setCell p v) g t cs :=
  (Below.heap_setCell w p v g hne).trans h
theorem row_result {fn : Func} {p : Tmp} (h : fn.results = #[.cell p 114]) (tmps : Array Value) (W : World) (g : Nat) (cs : Array Value) (hp : tmps.getD p undef = .pointer (some ⟨g, 0, none⟩)) (hB : Box W g 114 cs) (hs : cs.size = 2) :
    (results fn tmps).run Tryz.prog W = .ok (.agg cs) W :=
  results_cell_row h tmps W g 114 cs (0, 0) _ hp hB Tryz.underlying114 rfl (by rw [hs]; kernel_rfl)

set_option maxRecDepth 100000 in
set_option maxHeartbeats 1000000 in
theorem find_walk (o : Nat) (ho : o < 256) (w : World) : Calls Tryz.prog 77 #[.int .u8 (o : Int)] w fun e w' => e = .returned (.agg #[.bool (mayO o), .string (textO o)]) ∧ Kept (fun _ => False) w w' := by
  have bA := (Box.made w 114 #[.bool false, .string ⟨#[]⟩]).after_alloc (.cells #[.bool false, .string ⟨#[]⟩, .bool false, .string ⟨#[]⟩, .bool false, .string ⟨#[]⟩, .bool false, .string ⟨#[]⟩, .bool false, .string ⟨#[]⟩, .bool false, .string ⟨#[]⟩, .bool false, .string ⟨#[]⟩, .bool false, .string ⟨#[]⟩] 128)
  have bB := Box.made (w.alloc (.cells #[.bool false, .string ⟨#[]⟩] 114)) 128 #[.bool false, .string ⟨#[]⟩, .bool false, .string ⟨#[]⟩, .bool false, .string ⟨#[]⟩, .bool false, .string ⟨#[]⟩, .bool false, .string ⟨#[]⟩, .bool false, .string ⟨#[]⟩, .bool false, .string ⟨#[]⟩, .bool false, .string ⟨#[]⟩]
  rw [World.size_alloc] at bB
  have bK : Kept (fun _ => False) w ((w.alloc (.cells #[.bool false, .string ⟨#[]⟩] 114)).alloc (.cells #[.bool false, .string ⟨#[]⟩, .bool false, .string ⟨#[]⟩, .bool false, .string ⟨#[]⟩, .bool false, .string ⟨#[]⟩, .bool false, .string ⟨#[]⟩, .bool false, .string ⟨#[]⟩, .bool false, .string ⟨#[]⟩, .bool false, .string ⟨#[]⟩] 128)) := ((Kept.refl _ w).alloc _).alloc _
  have HA := Lib.hid bA
  have HB := Lib.hid bB
  have HK := Lib.hid bK
  clear bA bB bK
  go_enter Tryz.func77, Tryz.ntmps77
  go_wp2_with (first
    | (go_at_call 93; refine (map_walk _).mono ?_; rintro e w1 ⟨rfl, hm1, hk1⟩; rw [World.size_alloc, World.size_alloc] at hm1; have HM := Lib.hid hm1; have HA := Lib.hid (hk1.box HA.out (fun h => h)); have HB := Lib.hid (hk1.box HB.out (fun h => h)); have HZ := Lib.hid hk1.size; have HK := Lib.hid (HK.out.trans hk1 (fun _ _ h => h)); clear hm1 hk1)
    | (at_range; refine wpList_range_own _ rfl _ 129 rfl 9 5 key_law Tryz.underlying129 _ _ 6 _ rfl HM.out ?_; intro w2 hrg2 hg2 hs2)
    | go_in)
  go_frame
  have hA2 := HA.out
  have hB2 := HB.out
  have hz : w.heap.size + 1 + 1 ≤ w1.heap.size := by have := HZ.out; rw [World.size_alloc, World.size_alloc] at this; exact this
  have hm2 := hrg2.owns
  have kB : ∀ (W : World) (g : Nat) t cs, Box w1 g t cs → w1.grownBy W none → Box W g t cs := fun W g t cs h hg => (hg.block g h.lt (by simp)).trans h
  have hA3 := kB _ _ _ _ hA2 hg2
  have hB3 := kB _ _ _ _ hB2 hg2
  have hK3 := Kept.grown HK.out hg2 (fun j hj => by cases hj)
  rw [← row_start] at hB3
  clear HA HB HK HM HZ hA2 hB2 hm2 kB
  go_loopw [4] (fun _ wr => ∃ (left : Lit → Bool) (cnt : Nat), wr.ranges Tryz.prog 9 (plainElem Tryz.prog 5) (w.heap.size + 1 + 1) w1.heap.size 6 opsD left cnt ∧
      Box wr w.heap.size 114 #[.bool false, .string ⟨#[]⟩] ∧ Box wr (w.heap.size + 1) 128 (rowF (laidO left)) ∧ Kept (fun _ => False) w wr)
    (fun _ wr => wr.rangeLeft (w.heap.size + 1 + 1) w1.heap.size)
  case atStart => exact ⟨_, _, hrg2, hA3, hB3, hK3⟩
  case round =>
    clear hrg2 hg2 hs2 hA3 hB3 hK3
    obtain ⟨left, cnt, hrg, hA, hB, hK⟩ := hrel
    go_wp2_with (first
      | (at_next; refine wpList_next_ranges _ rfl _ rfl 9 key_law (plainElem Tryz.prog 5) Value.string (Value.int .u8) (fun key kl h => Maps.keyOf_string_inv Tryz.underlying9 h) (fun v y h => by obtain ⟨c, rfl, _⟩ := plainElem_int_inv Tryz.underlying5 h; exact ⟨c, rfl⟩) (w.heap.size + 1 + 1) w1.heap.size 6 _ _ _ rfl hrg ?_ ?_)
      | go_in)
    · intro hc0 hl0
      rw [row_end hl0] at hB
      have hB2 := hB
      simp only [rowF, mayO, textO] at hB2
      have a0 := hA.cell 0
      have a1 := hA.cell 1
      have fa := hA.free
      have HA := Lib.hid hA
      have HK := Lib.hid hK
      have HB := Lib.hid hB2
      by_cases h8 : 8 ≤ o
      · have g8 : (8 : Int) ≤ (o : Int) := by omega
        have v1 : mayO o = false := by simp [mayO]; omega
        have v2 : textO o = ⟨#[]⟩ := by unfold textO; split <;> first | omega | rfl
        clear hB hB2 hA hK hrg hl0
        go_wp2_with fail
        exact bodyPost_ret (row_result rfl _ _ w.heap.size _ rfl ((HA.out.stored 0 _).stored 1 _) rfl) rfl ⟨by rw [v1, v2]; rfl, (HK.out.setCell (p := ⟨w.heap.size, 0, none⟩) (.inr (Nat.le_refl _)) _).setCell (p := ⟨w.heap.size, 1, none⟩) (.inr (Nat.le_refl _)) _⟩
      · clear hB hA hK hrg hl0
        have h8' : o = 0 ∨ o = 1 ∨ o = 2 ∨ o = 3 ∨ o = 4 ∨ o = 5 ∨ o = 6 ∨ o = 7 := by omega
        have b0 := hB2.cell 0
        have b1 := hB2.cell 1
        have b2 := hB2.cell 2
        have b3 := hB2.cell 3
        have b4 := hB2.cell 4
        have b5 := hB2.cell 5
        have b6 := hB2.cell 6
        have b7 := hB2.cell 7
        have b8 := hB2.cell 8
        have b9 := hB2.cell 9
        have b10 := hB2.cell 10
        have b11 := hB2.cell 11
        have b12 := hB2.cell 12
        have b13 := hB2.cell 13
        have b14 := hB2.cell 14
        have b15 := hB2.cell 15
        clear hB2 h8
        rcases h8' with rfl | rfl | rfl | rfl | rfl | rfl | rfl | rfl
        all_goals go_wp2_with fail
        all_goals exact bodyPost_ret (row_result rfl _ _ w.heap.size _ rfl ((HA.out.stored 0 _).stored 1 _) rfl) rfl ⟨rfl, (HK.out.setCell (p := ⟨w.heap.size, 0, none⟩) (.inr (Nat.le_refl _)) _).setCell (p := ⟨w.heap.size, 1, none⟩) (.inr (Nat.le_refl _)) _⟩
    · intro x c kl y z w3 cnt3 hkx hlx hyc hat hrg2 hlt hg2 hs2 hen
      have hQ := hrg.left_eq
      have rB : Box w3 (w.heap.size + 1) 128 (rowF (laidO left)) := (hg2.block _ hB.lt (by intro e; have := Option.some.inj e; omega)).trans hB
      have rA : Box w3 w.heap.size 114 #[.bool false, .string ⟨#[]⟩] := (hg2.block _ hA.lt (by intro e; have := Option.some.inj e; omega)).trans hA
      have rK := Kept.grown hK hg2 (fun j hj => by cases hj; exact .inr (by omega))
      have fB : ∀ i, w3.frozen? ⟨w.heap.size + 1, i, none⟩ = false := fun i => Box.free (t := 128) rB i
      have HQ := Lib.hid hQ
      have HA := Lib.hid rA
      have HB := Lib.hid rB
      have HK := Lib.hid rK
      have HR := Lib.hid hrg2
      obtain ⟨x2, ex, rfl, _⟩ := Go.WideMaps.string_of_keyOf Tryz.underlying9 hkx
      cases ex
      obtain ⟨c2, ec, ez, _⟩ := plainElem_int_inv Tryz.underlying5 hyc
      cases ec
      injection ez with ey _
      subst ey
      have h6 := six _ _ hat
      obtain ⟨⟨l⟩⟩ := x
      change (l = [] ∧ c = 0) ∨ (l = [60] ∧ c = 1) ∨ (l = [60, 61] ∧ c = 3) ∨ (l = [61] ∧ c = 2) ∨ (l = [62] ∧ c = 4) ∨ (l = [62, 61] ∧ c = 6) at h6
      clear hyc hat hlx hkx rA rB rK hB hA hK hrg hrg2
      rcases h6 with ⟨rfl, rfl⟩ | ⟨rfl, rfl⟩ | ⟨rfl, rfl⟩ | ⟨rfl, rfl⟩ | ⟨rfl, rfl⟩ | ⟨rfl, rfl⟩
      · have b0 : w3.cell? ⟨w.heap.size + 1, 0, none⟩ = some (.bool (laidO left 0)) := HB.out.cell 0
        have b1 : w3.cell? ⟨w.heap.size + 1, 1, none⟩ = some (.string (if laidO left 0 then textO 0 else ⟨#[]⟩)) := HB.out.cell 1
        have cA := (HB.out.stored 0 (.bool true)).stored 1 (.string ⟨#[]⟩)
        rw [row_zero] at cA
        have cK := (HK.out.setCell (p := ⟨w.heap.size + 1, 0, none⟩) (.inr (Nat.le_succ _)) (.bool true)).setCell (p := ⟨w.heap.size + 1, 1, none⟩) (.inr (Nat.le_succ _)) (.string ⟨#[]⟩)
        have cR := HR.out.kept (w' := (w3.setCell ⟨w.heap.size + 1, 0, none⟩ (.bool true)).setCell ⟨w.heap.size + 1, 1, none⟩ (.string ⟨#[]⟩)) (row := some (w.heap.size + 1)) ((grown_cell _ _ _).andThen (grown_cell _ _ _) (fun j hj => .inr hj)) (fun e => by have := Option.some.inj e; omega) (fun e => by have := Option.some.inj e; omega)
        have cX : Box ((w3.setCell ⟨w.heap.size + 1, 0, none⟩ (.bool true)).setCell ⟨w.heap.size + 1, 1, none⟩ (.string ⟨#[]⟩)) w.heap.size 114 #[.bool false, .string ⟨#[]⟩] := box_apart (box_apart HA.out (by simp) _) (by simp) _
        have HR := Lib.hid cR
        have HA := Lib.hid cX
        have HB := Lib.hid cA
        have HK := Lib.hid cK
        clear cA cK cR cX
        go_wp2_with fail
        go_roundw
        case rel => exact ⟨_, cnt3, HR.out, HA.out, HB.out, HK.out⟩
        case measure => rw [HR.out.left_eq, HQ.out]; exact hlt
      · have b0 : w3.cell? ⟨w.heap.size + 1, 2, none⟩ = some (.bool (laidO left 1)) := HB.out.cell 2
        have b1 : w3.cell? ⟨w.heap.size + 1, 3, none⟩ = some (.string (if laidO left 1 then textO 1 else ⟨#[]⟩)) := HB.out.cell 3
        have cA := (HB.out.stored 2 (.bool true)).stored 3 (.string ⟨#[60]⟩)
        rw [row_one] at cA
        have cK := (HK.out.setCell (p := ⟨w.heap.size + 1, 2, none⟩) (.inr (Nat.le_succ _)) (.bool true)).setCell (p := ⟨w.heap.size + 1, 3, none⟩) (.inr (Nat.le_succ _)) (.string ⟨#[60]⟩)
        have cR := HR.out.kept (w' := (w3.setCell ⟨w.heap.size + 1, 2, none⟩ (.bool true)).setCell ⟨w.heap.size + 1, 3, none⟩ (.string ⟨#[60]⟩)) (row := some (w.heap.size + 1)) ((grown_cell _ _ _).andThen (grown_cell _ _ _) (fun j hj => .inr hj)) (fun e => by have := Option.some.inj e; omega) (fun e => by have := Option.some.inj e; omega)
        have cX : Box ((w3.setCell ⟨w.heap.size + 1, 2, none⟩ (.bool true)).setCell ⟨w.heap.size + 1, 3, none⟩ (.string ⟨#[60]⟩)) w.heap.size 114 #[.bool false, .string ⟨#[]⟩] := box_apart (box_apart HA.out (by simp) _) (by simp) _
        have HR := Lib.hid cR
        have HA := Lib.hid cX
        have HB := Lib.hid cA
        have HK := Lib.hid cK
        clear cA cK cR cX
        go_wp2_with fail
        go_roundw
        case rel => exact ⟨_, cnt3, HR.out, HA.out, HB.out, HK.out⟩
        case measure => rw [HR.out.left_eq, HQ.out]; exact hlt
      · have b0 : w3.cell? ⟨w.heap.size + 1, 6, none⟩ = some (.bool (laidO left 3)) := HB.out.cell 6
        have b1 : w3.cell? ⟨w.heap.size + 1, 7, none⟩ = some (.string (if laidO left 3 then textO 3 else ⟨#[]⟩)) := HB.out.cell 7
        have cA := (HB.out.stored 6 (.bool true)).stored 7 (.string ⟨#[60, 61]⟩)
        rw [row_three] at cA
        have cK := (HK.out.setCell (p := ⟨w.heap.size + 1, 6, none⟩) (.inr (Nat.le_succ _)) (.bool true)).setCell (p := ⟨w.heap.size + 1, 7, none⟩) (.inr (Nat.le_succ _)) (.string ⟨#[60, 61]⟩)
        have cR := HR.out.kept (w' := (w3.setCell ⟨w.heap.size + 1, 6, none⟩ (.bool true)).setCell ⟨w.heap.size + 1, 7, none⟩ (.string ⟨#[60, 61]⟩)) (row := some (w.heap.size + 1)) ((grown_cell _ _ _).andThen (grown_cell _ _ _) (fun j hj => .inr hj)) (fun e => by have := Option.some.inj e; omega) (fun e => by have := Option.some.inj e; omega)
        have cX : Box ((w3.setCell ⟨w.heap.size + 1, 6, none⟩ (.bool true)).setCell ⟨w.heap.size + 1, 7, none⟩ (.string ⟨#[60, 61]⟩)) w.heap.size 114 #[.bool false, .string ⟨#[]⟩] := box_apart (box_apart HA.out (by simp) _) (by simp) _
        have HR := Lib.hid cR
        have HA := Lib.hid cX
        have HB := Lib.hid cA
        have HK := Lib.hid cK
        clear cA cK cR cX
        go_wp2_with fail
        go_roundw
        case rel => exact ⟨_, cnt3, HR.out, HA.out, HB.out, HK.out⟩
        case measure => rw [HR.out.left_eq, HQ.out]; exact hlt
      · have b0 : w3.cell? ⟨w.heap.size + 1, 4, none⟩ = some (.bool (laidO left 2)) := HB.out.cell 4
        have b1 : w3.cell? ⟨w.heap.size + 1, 5, none⟩ = some (.string (if laidO left 2 then textO 2 else ⟨#[]⟩)) := HB.out.cell 5
        have cA := (HB.out.stored 4 (.bool true)).stored 5 (.string ⟨#[61]⟩)
        rw [row_two] at cA
        have cK := (HK.out.setCell (p := ⟨w.heap.size + 1, 4, none⟩) (.inr (Nat.le_succ _)) (.bool true)).setCell (p := ⟨w.heap.size + 1, 5, none⟩) (.inr (Nat.le_succ _)) (.string ⟨#[61]⟩)
        have cR := HR.out.kept (w' := (w3.setCell ⟨w.heap.size + 1, 4, none⟩ (.bool true)).setCell ⟨w.heap.size + 1, 5, none⟩ (.string ⟨#[61]⟩)) (row := some (w.heap.size + 1)) ((grown_cell _ _ _).andThen (grown_cell _ _ _) (fun j hj => .inr hj)) (fun e => by have := Option.some.inj e; omega) (fun e => by have := Option.some.inj e; omega)
        have cX : Box ((w3.setCell ⟨w.heap.size + 1, 4, none⟩ (.bool true)).setCell ⟨w.heap.size + 1, 5, none⟩ (.string ⟨#[61]⟩)) w.heap.size 114 #[.bool false, .string ⟨#[]⟩] := box_apart (box_apart HA.out (by simp) _) (by simp) _
        have HR := Lib.hid cR
        have HA := Lib.hid cX
        have HB := Lib.hid cA
        have HK := Lib.hid cK
        clear cA cK cR cX
        go_wp2_with fail
        go_roundw
        case rel => exact ⟨_, cnt3, HR.out, HA.out, HB.out, HK.out⟩
        case measure => rw [HR.out.left_eq, HQ.out]; exact hlt
      · have b0 : w3.cell? ⟨w.heap.size + 1, 8, none⟩ = some (.bool (laidO left 4)) := HB.out.cell 8
        have b1 : w3.cell? ⟨w.heap.size + 1, 9, none⟩ = some (.string (if laidO left 4 then textO 4 else ⟨#[]⟩)) := HB.out.cell 9
        have cA := (HB.out.stored 8 (.bool true)).stored 9 (.string ⟨#[62]⟩)
        rw [row_four] at cA
        have cK := (HK.out.setCell (p := ⟨w.heap.size + 1, 8, none⟩) (.inr (Nat.le_succ _)) (.bool true)).setCell (p := ⟨w.heap.size + 1, 9, none⟩) (.inr (Nat.le_succ _)) (.string ⟨#[62]⟩)
        have cR := HR.out.kept (w' := (w3.setCell ⟨w.heap.size + 1, 8, none⟩ (.bool true)).setCell ⟨w.heap.size + 1, 9, none⟩ (.string ⟨#[62]⟩)) (row := some (w.heap.size + 1)) ((grown_cell _ _ _).andThen (grown_cell _ _ _) (fun j hj => .inr hj)) (fun e => by have := Option.some.inj e; omega) (fun e => by have := Option.some.inj e; omega)
        have cX : Box ((w3.setCell ⟨w.heap.size + 1, 8, none⟩ (.bool true)).setCell ⟨w.heap.size + 1, 9, none⟩ (.string ⟨#[62]⟩)) w.heap.size 114 #[.bool false, .string ⟨#[]⟩] := box_apart (box_apart HA.out (by simp) _) (by simp) _
        have HR := Lib.hid cR
        have HA := Lib.hid cX
        have HB := Lib.hid cA
        have HK := Lib.hid cK
        clear cA cK cR cX
        go_wp2_with fail
        go_roundw
        case rel => exact ⟨_, cnt3, HR.out, HA.out, HB.out, HK.out⟩
        case measure => rw [HR.out.left_eq, HQ.out]; exact hlt
      · have b0 : w3.cell? ⟨w.heap.size + 1, 12, none⟩ = some (.bool (laidO left 6)) := HB.out.cell 12
        have b1 : w3.cell? ⟨w.heap.size + 1, 13, none⟩ = some (.string (if laidO left 6 then textO 6 else ⟨#[]⟩)) := HB.out.cell 13
        have cA := (HB.out.stored 12 (.bool true)).stored 13 (.string ⟨#[62, 61]⟩)
        rw [row_six] at cA
        have cK := (HK.out.setCell (p := ⟨w.heap.size + 1, 12, none⟩) (.inr (Nat.le_succ _)) (.bool true)).setCell (p := ⟨w.heap.size + 1, 13, none⟩) (.inr (Nat.le_succ _)) (.string ⟨#[62, 61]⟩)
        have cR := HR.out.kept (w' := (w3.setCell ⟨w.heap.size + 1, 12, none⟩ (.bool true)).setCell ⟨w.heap.size + 1, 13, none⟩ (.string ⟨#[62, 61]⟩)) (row := some (w.heap.size + 1)) ((grown_cell _ _ _).andThen (grown_cell _ _ _) (fun j hj => .inr hj)) (fun e => by have := Option.some.inj e; omega) (fun e => by have := Option.some.inj e; omega)
        have cX : Box ((w3.setCell ⟨w.heap.size + 1, 12, none⟩ (.bool true)).setCell ⟨w.heap.size + 1, 13, none⟩ (.string ⟨#[62, 61]⟩)) w.heap.size 114 #[.bool false, .string ⟨#[]⟩] := box_apart (box_apart HA.out (by simp) _) (by simp) _
        have HR := Lib.hid cR
        have HA := Lib.hid cX
        have HB := Lib.hid cA
        have HK := Lib.hid cK
        clear cA cK cR cX
        go_wp2_with fail
        go_roundw
        case rel => exact ⟨_, cnt3, HR.out, HA.out, HB.out, HK.out⟩
        case measure => rw [HR.out.left_eq, HQ.out]; exact hlt
end Go.Proofs.YtlagnebgoclaeaaGreatDoor
