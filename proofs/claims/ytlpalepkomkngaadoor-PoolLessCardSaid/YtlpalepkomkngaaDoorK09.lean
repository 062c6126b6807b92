/-
  The walks over the program's own text of layer 5: names, architectures of names, scores, what fits, what is apart, what may follow. Conditions: the two tables lie as the program's text lays them. From what a row lists of the two tables of layer 5 to what the walks ask of them. Packages in memory: what a value reads as. Nothing of the program is named here but its types. The walks over the document's answer for layer 2. The walks over the document's answer for layer 2. Plain facts on the first part of a version, and what follows it (chapter 2): nothing of the program is named here. The walks over the program's own text of layer 2: the Kind of a byte, a run's length, cmp.Compare, the zeros cut off. The walks over the program's own text of layer 2: the zeros cut off, two parts compared. The walk over the program's own text of layer 2: the first part of a version, and what follows it. What a round of a loop over an iterator may turn: some blocks, told by what lies below a bound; all other cells lie as they lay. Nothing of the program is named here. The iterator over a version's parts (layer 2). What is asked of Compare (layer 2, where its face is not asked for): how two versions compare. The walks over the document's answer for layer 3: how two EVRs compare. The walks over the program's own text of layer 3: how two EVRs compare: the three comparisons, and which one decides. A region that draws its order, walked once, where its calls make memory but leave the old blocks alone. Nothing of the program is named here. The walks over the program's own text of layer 4: which Ops may be, an Op's text, the Op of a text; an EVR in a range, two ranges that meet. The walks over the program's own text of layer 4: an EVR in a range, two ranges that meet. The walks over the program's own text of layer 4: two ranges that meet. A strings.Builder of the call's own: what its methods do to it; the library's copy check is left out where it would be refused. Conditions: as each theorem states.
-/
import Derived.Test.YtlpalepkomkngaaDoorRows
import Derived.WalkKit
import Derived.ProofKit
import Derived.Lib.AppendStr
import Derived.Test.YtlpalepkomkngaaDoorK08
import Derived.LaidSub
import Derived.MakeChecks
import Derived.Test.YtlpalepkomkngaaDoorK05
import Derived.Test.YtlpalepkomkngaaDoorK03
import Derived.Test.YtlpalepkomkngaaDoorK02
import Derived.Test.YtlpalepkomkngaaDoorK01
import Derived.Test.YtlpalepkomkngaaDoorK04
import Derived.Handy
import Derived.Lib.Hide
import Derived.Deep.CutRange
import Derived.Deep.CutBlock
import Derived.RangeFuncNested
import Derived.RangeFuncBound
import Derived.RangeFuncCalls
import Derived.RangeFuncLeaves
import Derived.RangeFuncBox
import Derived.Shelf.Abstract
import Derived.OwnWalkIn
import Derived.TacticsInMore
import Derived.LoopNIn
import Derived.LoopIn
import Derived.Deep.QuietTactic
import Derived.BigQuiet
import Derived.LoopN
import Derived.Test.YtlpalepkomkngaaDoorK07
import Derived.Shelf.Strings.BuilderK
import Derived.Lib.Builder
import Derived.Lib.FrozenHead2
import Derived.OwnWalk
namespace Go.Proofs.YtlpalepkomkngaaDoor
open Go.RowKit

namespace Arch
def known (a : Nat) : Bool := decide (1 ≤ a ∧ a ≤ 4)
def mach (a : Nat) : Bool := decide (2 ≤ a ∧ a ≤ 4)
def nm1 : ByteArray := ⟨#[110, 111, 97, 114, 99, 104]⟩
def nm2 : ByteArray := ⟨#[120, 56, 54, 95, 54, 52]⟩
def nm3 : ByteArray := ⟨#[105, 54, 56, 54]⟩
def nm4 : ByteArray := ⟨#[97, 97, 114, 99, 104, 54, 52]⟩
def nameB (a : Nat) : ByteArray := if a = 1 then nm1 else if a = 2 then nm2 else if a = 3 then nm3 else if a = 4 then nm4 else ⟨#[]⟩
def score (m a : Nat) : Nat := if mach m = true then (if a = m then 1 else if a = 1 then 2 else if m = 2 ∧ a = 3 then 3 else 0) else 0
def fits (m a : Nat) : Bool := decide (0 < score m a)
def apart (a b : Nat) : Bool := mach a && mach b && decide (a ≠ b)
def follows (a b : Nat) : Bool := known a && known b && !apart a b
def parse (s : ByteArray) : Nat × Nat := if nm1.toList == s.toList then (1, 0) else if nm2.toList == s.toList then (2, 0) else if nm3.toList == s.toList then (3, 0) else if nm4.toList == s.toList then (4, 0) else (0, 5)
def scoreRow (m : Nat) : List Value := (List.range 5).map fun a => .int .i64 (score m a : Int)
end Arch
open Arch

/-- The table of names lies as the program's text lays it. -/
structure NamesW (W : World) : Prop where
  names : ∀ i, i < 5 → W.cell? ⟨1, i, none⟩ = some (.string (nameB i))
/-- A pure call. -/
abbrev Pure (f : FuncId) (args : Array Value) (v : Value) (W : World) : Prop := Calls Tryd.prog f args W fun e w' => e = .returned v ∧ w' = W

theorem known_lits (a : Nat) : (a = 0 ∨ a = 1 ∨ a = 2 ∨ a = 3 ∨ a = 4) ∨ 5 ≤ a := by omega

section
variable (W : World)
theorem known_k (a : Nat) (ha : a < 256) : Pure 50 #[.int .u8 (a : Int)] (.bool (known a)) W := by
  have e : known a = (decide ((0 : Int) < (a : Int)) && decide ((a : Int) < 5)) := by rw [Bool.eq_iff_iff]; simp [known]; omega
  rw [e]
  by_cases h : (0 : Int) < (a : Int)
  · go_enter Tryd.func50, Tryd.ntmps50
    go_wp2_with fail
    go_ret
    exact ⟨by have h2 : 0 < a := by omega
              simp [h2], rfl⟩
  · go_enter Tryd.func50, Tryd.ntmps50
    go_wp2_with fail
    go_ret
    exact ⟨by simp, rfl⟩
theorem name_k (hW : NamesW W) (a : Nat) (ha : a < 256) : Pure 40 #[.int .u8 (a : Int)] (.string (nameB a)) W := by
  have hK := known_k W a ha
  by_cases h : 1 ≤ a ∧ a ≤ 4
  · have h5 : a = 1 ∨ a = 2 ∨ a = 3 ∨ a = 4 := by omega
    rw [show known a = true by simp [known, h]] at hK
    have n0 := hW.names 0 (by decide)
    have n1 := hW.names a (by omega)
    have ai : (a : Int) < 5 := by omega
    have ai2 : (0 : Int) ≤ (a : Int) := by omega
    go_enter Tryd.func40, Tryd.ntmps40
    go_wp2_with (go_at_call 50; with_reducible refine hK.mono ?_; rintro e w1 ⟨rfl, rfl⟩)
    go_ret
    exact ⟨rfl, rfl⟩
  · rw [show known a = false by simp [known]; omega] at hK
    have e : nameB a = ⟨#[]⟩ := by unfold nameB; rw [if_neg (by omega), if_neg (by omega), if_neg (by omega), if_neg (by omega)]
    rw [e]
    go_enter Tryd.func40, Tryd.ntmps40
    go_wp2_with (go_at_call 50; with_reducible refine hK.mono ?_; rintro e w1 ⟨rfl, rfl⟩)
    go_ret
    exact ⟨rfl, rfl⟩
end
end Go.Proofs.YtlpalepkomkngaaDoor

namespace Go.Proofs.YtlpalepkomkngaaDoor
open Go.ChangeShapes Go.WideShapes Go.ChangeAt Go.RowKit Arch

theorem nm_cells : flatC Tryd.prog 3 89 (Rows.laid_chandlery_arch_names : DataW Unit) = some ((List.range 5).map fun i => .string (nameB i)) := by kernel_rfl
theorem namesW_of {W : World} {L : List (String × DataW Unit)} (h : laidMetH Tryd.prog L W) (hp : (L.filter fun x => x.1 == "chandlery/arch.names") = [("chandlery/arch.names", Rows.laid_chandlery_arch_names)]) (hq : laidMetH Tryd.prog L W = laidMet Tryd.prog L W) : NamesW W := by
  rw [hq] at h
  have h1 := h.filter (fun x => x.1 == "chandlery/arch.names")
  rw [hp] at h1
  refine ⟨fun i hi => ?_⟩
  rw [laid_cells 3 (show Tryd.prog.globalNamed "chandlery/arch.names" = some 1 by kernel_rfl) (show (Tryd.prog.globals[1]?).map (·.type) = some 89 by kernel_rfl) nm_cells h1 i]
  simp [hi]
end Go.Proofs.YtlpalepkomkngaaDoor

namespace Go.Proofs.YtlpalepkomkngaaDoor
open Go.RowKit Ver Evr Span Rich

/-- A plain dependency, its texts as bytes. -/
structure De where
  nm : ByteArray
  o : Nat
  n : Int
  v : ByteArray
  r : ByteArray
abbrev deA (e : De) : Array Value := #[.string e.nm, .int .u8 (e.o : Int), .int .i64 e.n, .string e.v, .string e.r]
abbrev deV (e : De) : Value := .agg (deA e)
def DeOk (e : De) : Prop := e.nm.size ≤ 1000000 ∧ e.o < 256 ∧ e.v.size ≤ 1000000 ∧ e.r.size ≤ 1000000
/-- A slice of dependencies that reads as these. -/
def DesS (w : World) (v : Value) (l : List De) : Prop := ∃ ao cp, v = .slice ao l.length cp ∧ ∀ (i : Nat) e, l[i]? = some e → ∃ b off, ao = some ⟨b, off, none⟩ ∧ b < w.heap.size ∧ ∀ (j : Nat) u, (deA e)[j]? = some u → w.cell? ⟨b, off + i * 5 + j, none⟩ = some u
theorem DesS.kept {w w' : World} {v : Value} {l : List De} (h : DesS w v l) (hk : Kept (fun _ => False) w w') : DesS w' v l := by
  obtain ⟨ao, cp, h1, h2⟩ := h
  refine ⟨ao, cp, h1, fun i e hi => ?_⟩
  obtain ⟨b, off, h3, h4, h5⟩ := h2 i e hi
  exact ⟨b, off, h3, Nat.lt_of_lt_of_le h4 hk.size, fun j u hj => (hk.cell (p := ⟨b, off + i * 5 + j, none⟩) h4 (fun h => h)).trans (h5 j u hj)⟩
theorem DesS.at {w : World} {ao : Option Addr} {n cp : Nat} {l : List De} (h : DesS w (.slice ao n cp) l) {i : Nat} {e : De} (hi : l[i]? = some e) :
    n = l.length ∧ ∃ b off, ao = some ⟨b, off, none⟩ ∧ b < w.heap.size ∧ w.cell? ⟨b, off + i * 5, none⟩ = some (.string e.nm) ∧ w.cell? ⟨b, off + i * 5 + 1, none⟩ = some (.int .u8 (e.o : Int)) ∧ w.cell? ⟨b, off + i * 5 + 2, none⟩ = some (.int .i64 e.n) ∧ w.cell? ⟨b, off + i * 5 + 3, none⟩ = some (.string e.v) ∧ w.cell? ⟨b, off + i * 5 + 4, none⟩ = some (.string e.r) := by
  obtain ⟨ao', cp', h1, h2⟩ := h
  injection h1 with e1 e2 e3
  subst e1
  obtain ⟨b, off, h3, h4, h5⟩ := h2 i e hi
  exact ⟨e2, b, off, h3, h4, h5 0 _ rfl, h5 1 _ rfl, h5 2 _ rfl, h5 3 _ rfl, h5 4 _ rfl⟩
theorem DesS.nil (w : World) : DesS w (.slice none 0 0) [] := ⟨none, 0, rfl, fun i e hi => by simp at hi⟩
def meetsB (a b : De) : Bool := decide (a.nm = b.nm) && meetO a.o b.o (cmpE (evrE a.n a.v a.r) (evrE b.n b.v b.r))
/-- Whether what has this name and this EVR is named. -/
def namedB (nm : ByteArray) (n : Int) (v r : ByteArray) (d : De) : Bool := meetsB ⟨nm, 2, n, v, r⟩ d
theorem eqB_yes (s : ByteArray) : (s.toList == s.toList) = true := by simp
theorem eqB_no {s t : ByteArray} (h : s ≠ t) : (s.toList == t.toList) = false := by
  rw [ByteArray.toList_eq, ByteArray.toList_eq]
  refine beq_eq_false_iff_ne.2 fun e => h ?_
  obtain ⟨s⟩ := s
  obtain ⟨t⟩ := t
  congr 1
  exact Array.ext' e
theorem any_get {α : Type} (f : α → Bool) (l : List α) (i : Nat) (x : α) (hx : l[i]? = some x) (h0 : (l.take i).any f = false) : (l.take (i + 1)).any f = f x := by
  rw [List.take_add_one, hx, List.any_append, h0]
  simp
end Go.Proofs.YtlpalepkomkngaaDoor

namespace Go.Proofs.YtlpalepkomkngaaDoor
open Go.RowKit Ver

/-- Parts as cells. -/
def cellsP : List Pt → List Value
  | [] => []
  | p :: l => .int .u8 (p.1 : Int) :: .string ⟨p.2.toArray⟩ :: cellsP l
theorem cellsP_app : ∀ a b : List Pt, cellsP (a ++ b) = cellsP a ++ cellsP b
  | [], _ => rfl
  | p :: a, b => by simp [cellsP, cellsP_app a b]
theorem cellsP_len : ∀ a : List Pt, (cellsP a).length = a.length * 2
  | [] => rfl
  | p :: a => by simp [cellsP, cellsP_len a]; omega
theorem cellsP_one : ∀ a : List Pt, ∀ u ∈ cellsP a, u.oneCell' = true
  | [], u, h => by simp [cellsP] at h
  | p :: a, u, h => by
    simp only [cellsP, List.mem_cons] at h
    rcases h with h | h | h
    · rw [h]; rfl
    · rw [h]; rfl
    · exact cellsP_one a u h

theorem run_facts (s : ByteArray) (k : Nat) (kd : Nat) (h : k < s.size) (b : UInt8) (hb : s.data.toList[k]? = some b) (hkd : kindB b = kd) : ∃ T, T = k + (run kd s.data.toList k).length ∧ k < T ∧ T ≤ s.size ∧ (∀ m (hm : m < s.size) (c : UInt8), k ≤ m → m < T → c = s[m] → kindB c = kd) ∧ ∀ (hm : T < s.size) (c : UInt8), c = s[T] → kindB c ≠ kd := by
  have hl := run_len kd s.data.toList k (by simp; omega)
  have he : ∀ (hm : k + (run kd s.data.toList k).length < s.size) (c : UInt8), c = s[k + (run kd s.data.toList k).length] → kindB c ≠ kd := fun hm c h2 => run_end (char_at hm h2)
  refine ⟨_, rfl, ?_, by simpa using hl, fun m hm c h0 h1 h2 => ?_, he⟩
  · by_cases h0 : (run kd s.data.toList k).length = 0
    · exact absurd hkd (run_end (by rw [h0]; exact hb))
    · omega
  · obtain ⟨j, rfl⟩ : ∃ j, m = k + j := ⟨m - k, by omega⟩
    exact run_at (by omega) (char_at hm h2)
theorem zero_facts (s : ByteArray) (k kd T : Nat) (hT : T = k + (run kd s.data.toList k).length) : ∃ F, k ≤ F ∧ F ≤ T ∧ (kd ≠ 5 → F = k) ∧ (kd = 5 → ∀ m (hm : m < s.size) (c : UInt8), k ≤ m → m < F → c = s[m] → c.toNat = 48) ∧
    (kd = 5 → F < T → ∀ (hm : F < s.size) (c : UInt8), c = s[F] → c.toNat ≠ 48) ∧ norm (kd, run kd s.data.toList k) = (kd, (s.data.toList.drop F).take (T - F)) := by
  by_cases h5 : kd = 5
  · subst h5
    have e := tw_take (fun b => kindB b == 5) (s.data.toList.drop k)
    have hz : zeros (run 5 s.data.toList k) ≤ (run 5 s.data.toList k).length := tw_len (fun b : UInt8 => b.toNat == 48) (run 5 s.data.toList k)
    have hat : ∀ j c, k + j < T → s.data.toList[k + j]? = some c → (run 5 s.data.toList k)[j]? = some c := by
      intro j c hj hc
      have e' : run 5 s.data.toList k = (s.data.toList.drop k).take (run 5 s.data.toList k).length := e
      rw [e', List.getElem?_take, if_pos (by omega), List.getElem?_drop]
      exact hc
    refine ⟨k + zeros (run 5 s.data.toList k), by omega, by omega, fun h => absurd rfl h, fun _ m hm c h0 h1 h2 => ?_, fun _ h1 hj c h2 => ?_, ?_⟩
    · obtain ⟨j, rfl⟩ : ∃ j, m = k + j := ⟨m - k, by omega⟩
      obtain ⟨d, h3, h4⟩ := tw_at (fun b : UInt8 => b.toNat == 48) (run 5 s.data.toList k) j (by unfold zeros at h1; omega)
      rw [hat j c (by omega) (char_at hm h2)] at h3
      rw [Option.some.inj h3]
      simpa using h4
    · have := tw_end (fun b : UInt8 => b.toNat == 48) (run 5 s.data.toList k) c (hat _ c h1 (char_at hj h2))
      simpa using this
    · rw [norm_run, if_pos rfl, hT, show k + (run 5 s.data.toList k).length - (k + zeros (run 5 s.data.toList k)) = (run 5 s.data.toList k).length - zeros (run 5 s.data.toList k) by omega]
  · refine ⟨k, Nat.le_refl _, by omega, fun _ => rfl, fun h => absurd h h5, fun h => absurd h h5, ?_⟩
    rw [norm_run, if_neg h5, hT, Nat.add_sub_cancel_left]
theorem part_text (s : ByteArray) {k F T kd : Nat} (h : norm (kd, run kd s.data.toList k) = (kd, (s.data.toList.drop F).take (T - F))) : ∃ tl : List UInt8, norm (kd, run kd s.data.toList k) = (kd, tl) ∧ s.extract F T = ⟨tl.toArray⟩ :=
  ⟨_, h, extract_list s F T⟩
theorem new_part (w : World) (t : TypeId) (p : Pt) :
    ∀ (j : Nat) (u : Value), (cellsP [p])[j]? = some u → (w.alloc (.cells #[.int .u8 (p.1 : Int), .string ⟨p.2.toArray⟩] t)).cell? ((⟨w.heap.size, 0, none⟩ : Addr).add j) = some u := by
  intro j u hj
  match j, hj with
  | 0, hj => simp [cellsP] at hj; subst hj; simp [Addr.add]
  | 1, hj => simp [cellsP] at hj; subst hj; simp [Addr.add]

end Go.Proofs.YtlpalepkomkngaaDoor

namespace Go.Proofs.YtlpalepkomkngaaDoor
open Go.RowKit Ver


/-- A part as a struct. -/
def aggP (p : Pt) : Value := .agg #[.int .u8 (p.1 : Int), .string ⟨p.2.toArray⟩]
theorem below_case1 (k m : Nat) (s t : List UInt8) (h : k ≠ m) : below (k, s) (m, t) = decide (k < m) := by simp [below, h]
theorem below_case2 (s t : List UInt8) (h : s.length ≠ t.length) : below (5, s) (5, t) = decide (s.length < t.length) := by simp [below, h]
theorem below_case3 (k : Nat) (s t : List UInt8) (h : ¬ (k = 5 ∧ s.length ≠ t.length)) : below (k, s) (k, t) = Op.bytesLess s t := by
  unfold below
  rw [if_neg (by simp), if_neg h]
/-- What reads behind the end. -/
def ptAt (l : List Pt) (i : Nat) : Pt := l.getD i (2, [])
theorem cellsP_at : ∀ (l : List Pt) (i : Nat) (_h : i < l.length), (cellsP l)[i * 2]? = some (.int .u8 ((ptAt l i).1 : Int)) ∧ (cellsP l)[i * 2 + 1]? = some (.string ⟨(ptAt l i).2.toArray⟩)
  | p :: l, 0, _ => ⟨rfl, rfl⟩
  | p :: l, i + 1, h => by
    have := cellsP_at l i (by simpa using h)
    have e1 : (i + 1) * 2 = i * 2 + 1 + 1 := by omega
    have e2 : (i + 1) * 2 + 1 = i * 2 + 1 + 1 + 1 := by omega
    rw [e1]
    simpa [cellsP, ptAt] using this
theorem ptAt_end (l : List Pt) (i : Nat) (h : l.length ≤ i) : ptAt l i = (2, []) := by
  unfold ptAt
  rw [List.getD_eq_getElem?_getD, List.getElem?_eq_none h]
  rfl
theorem ptAt_drop {l : List Pt} {i : Nat} (h : i < l.length) : l.drop i = ptAt l i :: l.drop (i + 1) := by
  rw [List.drop_eq_getElem_cons h]
  unfold ptAt
  rw [List.getD_eq_getElem?_getD, List.getElem?_eq_getElem h]
  rfl
theorem ptAt_whole {l : List Pt} {i : Nat} (hw : Whole l) (h : i < l.length) : (ptAt l i).1 = 1 ∨ (ptAt l i).1 = 3 ∨ (ptAt l i).1 = 4 ∨ (ptAt l i).1 = 5 := by
  apply hw
  unfold ptAt
  rw [List.getD_eq_getElem?_getD, List.getElem?_eq_getElem h]
  exact List.getElem_mem h
theorem cmp_at (l m : List Pt) (i : Nat) (hl : Whole l) (hm : Whole m) (h : i < l.length ∨ i < m.length) :
    cmpP (l.drop i) (m.drop i) = if below (ptAt l i) (ptAt m i) = true then -1 else if below (ptAt m i) (ptAt l i) = true then 1 else cmpP (l.drop (i + 1)) (m.drop (i + 1)) := by
  by_cases h1 : i < l.length
  · rw [ptAt_drop h1]
    by_cases h2 : i < m.length
    · rw [ptAt_drop h2, cmp_cc]
    · rw [List.drop_eq_nil_of_le (by omega : m.length ≤ i), cmp_cn, ptAt_end m i (by omega)]
      have hk := ptAt_whole hl h1
      generalize ptAt l i = p at hk ⊢
      obtain ⟨k, t⟩ := p
      simp only at hk
      rcases hk with rfl | rfl | rfl | rfl <;> rfl
  · have h2 : i < m.length := by omega
    rw [ptAt_drop h2, List.drop_eq_nil_of_le (by omega : l.length ≤ i), cmp_nc, ptAt_end l i (by omega)]
    have hk := ptAt_whole hm h2
    generalize ptAt m i = p at hk ⊢
    obtain ⟨k, t⟩ := p
    simp only at hk
    rcases hk with rfl | rfl | rfl | rfl <;> rfl
theorem norm_raw_len (x : List UInt8) : (parts x).length ≤ x.length := by
  unfold parts
  rw [List.length_map]
  induction x with
  | nil => exact Nat.le_refl _
  | cons b l ih =>
    rw [raw_cons]
    split
    · simp only [List.length_cons]; omega
    · split
      · simp only [List.length_cons]; omega
      · split
        · split
          · simp
          · rename_i e; rw [e] at ih; simp only [List.length_cons] at ih ⊢; omega
        · simp only [List.length_cons]; omega

end Go.Proofs.YtlpalepkomkngaaDoor

namespace Go.Proofs.YtlpalepkomkngaaDoor
namespace Ver
/-- What stands ahead of the first part is left out. -/
def skip (l : List UInt8) : List UInt8 := l.dropWhile (fun b => kindB b == 0)
/-- The first part, and what follows it; (2, []): there is none. -/
def fst (l : List UInt8) : Pt × List UInt8 :=
  match skip l with
  | [] => ((2, []), [])
  | b :: r => if kindB b < 4 then ((kindB b, []), r) else (norm (kindB b, (b :: r).takeWhile (fun c => kindB c == kindB b)), (b :: r).dropWhile (fun c => kindB c == kindB b))
theorem parts_skip (l : List UInt8) : parts (skip l) = parts l := by
  induction l with
  | nil => rfl
  | cons b l ih =>
    unfold skip
    by_cases h : kindB b = 0
    · rw [List.dropWhile_cons, if_pos (by simp [h]), parts_nothing b h]
      exact ih
    · rw [List.dropWhile_cons, if_neg (by simp [h])]
theorem skip_head (l : List UInt8) (b : UInt8) (r : List UInt8) (h : skip l = b :: r) : kindB b ≠ 0 := by
  unfold skip at h
  intro h0
  have := List.head?_dropWhile_not (fun b => kindB b == 0) l
  rw [h] at this
  simp [h0] at this
theorem skip_len (l : List UInt8) : (skip l).length ≤ l.length := (List.dropWhile_sublist _).length_le
theorem fst_nil {l : List UInt8} (h : skip l = []) : fst l = ((2, []), []) := by unfold fst; rw [h]
theorem fst_mark {l r : List UInt8} {b : UInt8} (h : skip l = b :: r) (hb : kindB b < 4) : fst l = ((kindB b, []), r) := by unfold fst; rw [h]; simp only []; rw [if_pos hb]
theorem fst_run {l r : List UInt8} {b : UInt8} (h : skip l = b :: r) (hb : ¬ kindB b < 4) : fst l = (norm (kindB b, (b :: r).takeWhile (fun c => kindB c == kindB b)), (b :: r).dropWhile (fun c => kindB c == kindB b)) := by unfold fst; rw [h]; simp only []; rw [if_neg hb]
theorem fst_end {l : List UInt8} (h : (fst l).1.1 = 2) : parts l = [] := by
  rw [← parts_skip]
  cases hs : skip l with
  | nil => rfl
  | cons b r =>
    exfalso
    have h2 := kindB_ne2 b
    by_cases hb : kindB b < 4
    · rw [fst_mark hs hb] at h; exact h2 h
    · rw [fst_run hs hb] at h; exact h2 h
theorem fst_part {l : List UInt8} (h : (fst l).1.1 ≠ 2) : parts l = (fst l).1 :: parts (fst l).2 ∧ (fst l).2.length < l.length := by
  have hl := skip_len l
  rw [← parts_skip]
  cases hs : skip l with
  | nil => rw [fst_nil hs] at h; exact absurd rfl h
  | cons b r =>
    rw [hs, List.length_cons] at hl
    have h0 := skip_head l b r hs
    have h1 := kindB_le b
    have h2 := kindB_ne2 b
    by_cases hb : kindB b < 4
    · rw [fst_mark hs hb]
      exact ⟨parts_one b (by omega) r, by simp only []; omega⟩
    · rw [fst_run hs hb]
      have e := parts_run (kindB b) (by omega) (b :: r) 0 (b := b) rfl rfl
      rw [List.drop_zero, ← List.drop_drop, List.drop_zero] at e
      refine ⟨?_, ?_⟩
      · rw [e]
        congr 2
        exact (dw_drop _ _).symm
      · simp only []
        rw [dw_drop, List.length_drop, List.takeWhile_cons, if_pos (by simp)]
        simp only [List.length_cons]
        omega
theorem fst_out {l : List UInt8} (h : (fst l).1.1 = 2) : (fst l).1 = (2, []) ∧ (fst l).2 = [] := by
  cases hs : skip l with
  | nil => rw [fst_nil hs]; exact ⟨rfl, rfl⟩
  | cons b r =>
    exfalso
    have h2 := kindB_ne2 b
    by_cases hb : kindB b < 4
    · rw [fst_mark hs hb] at h; exact h2 h
    · rw [fst_run hs hb] at h; exact h2 h
theorem skip_fst_len (l : List UInt8) : (fst l).2.length ≤ l.length := by
  by_cases h : (fst l).1.1 = 2
  · rw [(fst_out h).2]; simp
  · exact Nat.le_of_lt (fst_part h).2
end Ver
end Go.Proofs.YtlpalepkomkngaaDoor

namespace Go.Proofs.YtlpalepkomkngaaDoor
open Go.RowKit Ver

/-- -1, 0, 1. -/
def sgn (a b : Bool) : Int := if a = true then -1 else if b = true then 1 else 0

/-- '>' of two texts. -/
theorem str_gtr (x y : ByteArray) (w : World) : Sem.run Tryd.prog (binOp BinOp.gtr 9 (Value.string x) (Value.string y)) w = .ok (.bool (Op.bytesLess y.toList x.toList)) w := by
  have h : Sem.run Tryd.prog (binOp BinOp.gtr 9 (Value.string x) (Value.string y)) w = .ok (.bool (!(Op.bytesLess x.toList y.toList || x.toList == y.toList))) w := by kernel_rfl
  rw [h]
  congr 2
  cases h1 : Op.bytesLess x.toList y.toList with
  | true =>
    cases h2 : Op.bytesLess y.toList x.toList with
    | false => rfl
    | true => exact absurd (bl_trans _ _ _ h1 h2) (by rw [bl_irrefl]; simp)
  | false =>
    by_cases he : x.toList = y.toList
    · rw [he, bl_irrefl]; simp
    · cases h2 : Op.bytesLess y.toList x.toList with
      | true => simp [he]
      | false => exact absurd (bl_total _ _ h1 h2) he
end Go.Proofs.YtlpalepkomkngaaDoor

namespace Go.Proofs.YtlpalepkomkngaaDoor
open Go.RowKit Ver

def strLen : Value → Nat
  | .string s => s.size
  | _ => 0
/-- How two parts compare: -1, 0, 1. -/
def cmpPt (p q : Pt) : Int := sgn (below p q) (below q p)
end Go.Proofs.YtlpalepkomkngaaDoor

namespace Go.Proofs.YtlpalepkomkngaaDoor
open Go.RowKit Ver

theorem skip_text (s : ByteArray) : (s.extract (run 0 s.data.toList 0).length s.size).data.toList = skip s.data.toList := by
  rw [extract_list]
  show ((s.data.toList.drop _).take _) = _
  rw [List.take_of_length_le (by simp)]
  unfold skip
  rw [dw_drop]
  rfl
theorem toList_nil {s : ByteArray} (h : s.toList.isEmpty = true) : s.data.toList = [] := by rw [← ByteArray.toList_eq]; simpa using h
theorem toList_cons {s : ByteArray} (h : s.toList.isEmpty = false) : ∃ (b : UInt8) (r : List UInt8) (h0 : 0 < s.size), s.data.toList = b :: r ∧ s[0] = b ∧ (s.extract 1 s.size).data.toList = r := by
  rw [ByteArray.toList_eq] at h
  cases hs : s.data.toList with
  | nil => rw [hs] at h; simp at h
  | cons b r =>
    have h0 : 0 < s.size := by
      have : s.data.toList.length = s.size := rfl
      rw [← this, hs]; simp
    refine ⟨b, r, h0, rfl, ?_, ?_⟩
    · have := char_at (s := s) (k := 0) (b := s[0]) h0 rfl
      rw [hs] at this
      simpa using this.symm
    · rw [extract_list, hs]
      have : s.size - 1 = r.length := by
        have : s.data.toList.length = s.size := rfl
        rw [← this, hs]; simp
      simp [this]
theorem of_list (s : ByteArray) (l : List UInt8) (h : s.data.toList = l) : s = ⟨l.toArray⟩ := by
  apply ByteArray.ext
  rw [← h]

end Go.Proofs.YtlpalepkomkngaaDoor

namespace Go.Proofs.YtlpalepkomkngaaDoor
open Go.RowKit

/-- Which blocks may turn hangs on what lies below n₀ alone. -/
def Mut (n₀ : Nat) (M : World → Nat → Prop) : Prop := ∀ W W' : World, (∀ k, k < n₀ → W'.heap[k]? = W.heap[k]?) → ∀ i, M W' i → M W i
/-- They are there. -/
def There (M : World → Nat → Prop) (W : World) : Prop := ∀ i, M W i → i < W.heap.size
/-- What a round keeps. -/
structure KpM (M : World → Nat → Prop) (W W' : World) : Prop where
  size : W.heap.size ≤ W'.heap.size
  cells : ∀ i o, W.heap[i]? = some o → o.isCells = true → ¬ M W i → W'.heap[i]? = some o
  turn : ∀ i, M W' i → M W i ∨ (W.heap.size ≤ i ∧ i < W'.heap.size)
section
variable {n₀ : Nat} {M : World → Nat → Prop} {A B C W W' w : World}
theorem KpM.refl (M : World → Nat → Prop) (W : World) : KpM M W W := ⟨Nat.le_refl _, fun _ _ h _ _ => h, fun _ h => .inl h⟩
theorem KpM.trans (h : KpM M A B) (k : KpM M B C) : KpM M A C :=
  ⟨Nat.le_trans h.size k.size,
   fun i o hi ho hm => k.cells i o (h.cells i o hi ho hm) ho (fun hb => by
     rcases h.turn i hb with hb | ⟨hb, _⟩
     · exact hm hb
     · have := (Array.getElem?_eq_some_iff.1 hi).1
       omega),
   fun i hi => by
     rcases k.turn i hi with hi | ⟨h1, h2⟩
     · rcases h.turn i hi with hi | ⟨h1, h2⟩
       · exact .inl hi
       · have := k.size
         exact .inr ⟨h1, by omega⟩
     · have := h.size
       exact .inr ⟨by omega, h2⟩⟩
theorem KpM.putObj (hM : Mut n₀ M) (hn : n₀ ≤ w.heap.size) (W : World) (l : Nat) (o o' : Obj) (hl : w.heap.size ≤ l) (h : W.heap[l]? = some o) (hc : o.isCells = false) (_ : o.isWalk = false) : KpM M W (W.putObj l o') := by
  have hg := grownBy_putObj' W l o'
  refine ⟨hg.size, fun i o2 hi ho _ => ?_, fun i hi => .inl (hM W _ (fun k hk => ?_) i hi)⟩
  · refine (hg.block i (Array.getElem?_eq_some_iff.1 hi).1 (fun e => ?_)).trans hi
    cases e
    rw [h] at hi
    cases hi
    rw [hc] at ho
    cases ho
  · have := (Array.getElem?_eq_some_iff.1 h).1
    exact hg.block k (by omega) (fun e => by cases e; omega)
theorem KpM.of_kept (hM : Mut n₀ M) (hn : n₀ ≤ W.heap.size) (h : Kept (fun _ => False) W W') : KpM M W W' :=
  ⟨h.size, fun i o hi _ _ => (h.block i (Array.getElem?_eq_some_iff.1 hi).1 (fun h => h)).trans hi,
   fun i hi => .inl (hM W W' (fun k hk => h.block k (by omega) (fun h => h)) i hi)⟩
theorem There.kept (h : There M W) (k : KpM M W W') : There M W' := fun i hi => by
  rcases k.turn i hi with hi | ⟨_, hi⟩
  · exact Nat.lt_of_lt_of_le (h i hi) k.size
  · exact hi
theorem KpM.box {g : Nat} {t : TypeId} {cs : Array Value} (k : KpM M W W') (h : Box W g t cs) (hg : ¬ M W g) : Box W' g t cs := k.cells g _ h rfl hg
theorem KpM.not (k : KpM M W W') {g : Nat} (h : g < W.heap.size) (hg : ¬ M W g) : ¬ M W' g := fun hh => by
  rcases k.turn g hh with hi | ⟨hi, _⟩
  · exact hg hi
  · omega
theorem Kept.grownNone (h : Kept (fun _ => False) W W') : W.grownBy W' none := ⟨h.os, h.tape, h.output, h.size, fun k hk _ => h.block k hk (fun h => h)⟩
theorem Kept.others (h : Kept (fun _ => False) W W') : KeepsOthers W W' := ⟨h.size, fun k _ hk _ => (h.block k (Array.getElem?_eq_some_iff.1 hk).1 (fun h => h)).trans hk⟩
/-- A block that is new is none of those that may turn. -/
theorem KpM.fresh (hM : Mut n₀ M) (hn : n₀ ≤ W.heap.size) (hT : There M W) (h : Kept (fun _ => False) W W') {g : Nat} (hg : W.heap.size ≤ g) : ¬ M W' g ∧ There M W' := by
  have k := KpM.of_kept hM hn h
  refine ⟨fun hh => ?_, hT.kept k⟩
  have := hT g (hM W W' (fun k hk => h.block k (by omega) (fun h => h)) g hh)
  omega
/-- fresh_box -/
theorem abides {β : Type} {J : β → World → Prop} {n : Nat} (hJ : AbidesFrom n J) {s : β} (hs : J s W) (h : Kept (fun _ => False) W W') : J s W' := hJ s W W' none hs h.grownNone (fun _ e => by cases e)
/-- Two named blocks, and no more. -/
theorem mut_const (n₀ : Nat) (S : Nat → Prop) : Mut n₀ (fun _ i => S i) := fun _ _ _ _ h => h
/-- A box that holds a slice, and what that owns. -/
def OwnB (B : Nat) (W : World) (i : Nat) : Prop := i = B ∨ ∃ v, W.cell? ⟨B, 0, none⟩ = some v ∧ v.ownBlock = some i
theorem mut_own {n₀ B : Nat} (h : B < n₀) : Mut n₀ (OwnB B) := fun W W' hk i hi => by
  rcases hi with hi | ⟨v, h1, h2⟩
  · exact .inl hi
  · exact .inr ⟨v, by rw [← h1]; exact (World.cell?_of_block (a := ⟨B, 0, none⟩) (hk B h)).symm, h2⟩
/-- An append onto what the box holds, stored there. -/
theorem KpM.appended {Bo : Nat} {t e : TypeId} {v v' : Value} {tmp : Obj} {w1 : World} {base size n : Nat} {xs : List Value} (hv : Boxed W Bo t v) (hg : (W.alloc tmp).grownBy w1 v.ownBlock)
    (hb : v'.ownBlock = v.ownBlock ∨ v'.ownBlock = some (W.alloc tmp).heap.size) (hr : w1.ownsRow base e size v' n xs) (hv1 : Boxed w1 Bo t v) : KpM (OwnB Bo) W (w1.setCell ⟨Bo, 0, none⟩ v') := by
  have hs1 := hg.size
  rw [World.size_alloc] at hs1
  have hss : (w1.setCell ⟨Bo, 0, none⟩ v').heap.size = w1.heap.size := by simp [World.setCell]
  have hnew := (hv1.set v').cell
  refine ⟨by omega, fun i o hi _ hm => ?_, fun i hi => ?_⟩
  · have hlt := (Array.getElem?_eq_some_iff.1 hi).1
    have hne : i ≠ Bo := fun e => hm (.inl e)
    have hno : some i ≠ v.ownBlock := fun e => hm (.inr ⟨v, hv.cell, e.symm⟩)
    refine (Below.heap_setCell w1 _ _ i (fun e => hne e)).trans ?_
    refine (hg.block i (by rw [World.size_alloc]; omega) hno).trans ?_
    exact (Below.heap_alloc W tmp i hlt).trans hi
  · rcases hi with hi | ⟨u, h1, h2⟩
    · exact .inl (.inl hi)
    · rw [hnew] at h1
      cases h1
      rcases hb with hb | hb
      · exact .inl (.inr ⟨v, hv.cell, by rw [← hb]; exact h2⟩)
      · right
        have h3 := (hr.lt i h2).2
        rw [hb, World.size_alloc] at h2
        cases h2
        omega
theorem kept_own {β : Type} {w : World} {B : Nat} (h : w.heap.size ≤ B) : OwnFrom B (fun (_ : β) W => Kept (fun _ => False) w W) := fun _ _ _ _ hs hg hr => hs.grown hg (fun i hi => .inr (Nat.le_trans h (hr i hi).1))
theorem box_own {β : Type} (B g : Nat) (t : TypeId) (f : β → Array Value) : OwnFrom B (fun s W => Box W g t (f s)) := fun s X Y row hs hg hr => by
  refine (hg.block g hs.lt (fun e => ?_)).trans hs
  obtain ⟨o, ho, hc⟩ := (hr g e.symm).2
  rw [show X.heap[g]? = _ from hs] at ho
  cases ho
  cases hc
end
end Go.Proofs.YtlpalepkomkngaaDoor

namespace Go.Proofs.YtlpalepkomkngaaDoor
open Go.RowKit Ver Go.Shelf
attribute [local go_sem] Oper.semAt_some

def kindLeft : Option Value → Nat
  | some (.int _ k) => if k = 2 then 0 else 1
  | _ => 0
def addrOf : Value → Addr
  | .pointer (some p) => p
  | _ => ⟨0, 0, none⟩
abbrev encP (p : Pt) : Array Value := #[.agg #[.int .u8 (p.1 : Int), .string ⟨p.2.toArray⟩]]

end Go.Proofs.YtlpalepkomkngaaDoor

namespace Go.Proofs.YtlpalepkomkngaaDoor
open Go.RowKit Ver Go.Shelf
attribute [local go_sem] Oper.semAt_some

def cmpB (a b : ByteArray) : Int := cmpV a.data.toList b.data.toList
theorem cmpPt_zero {p q : Pt} (h : cmpPt p q = 0) : p = q := by
  unfold cmpPt sgn at h
  cases h1 : below p q with
  | true => rw [h1] at h; simp at h
  | false =>
    cases h2 : below q p with
    | true => rw [h1, h2] at h; simp at h
    | false => exact below_total p q h1 h2
theorem cmpPt_self (p : Pt) : cmpPt p p = 0 := by unfold cmpPt sgn; rw [below_irrefl]; rfl
theorem cmp_step (x : Pt) (xs ys : List Pt) (q : Pt) (h : cmpPt x q ≠ 0) : cmpP (x :: xs) (q :: ys) = cmpPt x q := by
  rw [cmp_cc]
  unfold cmpPt sgn at h ⊢
  cases h1 : below x q with
  | true => rfl
  | false =>
    cases h2 : below q x with
    | true => rfl
    | false => rw [h1, h2] at h; exact absurd rfl h
theorem cmp_first (x : Pt) (xs : List Pt) (l : List UInt8) (hx : x.1 ≠ 2) (h : cmpPt x (fst l).1 ≠ 0) : cmpP (x :: xs) (parts l) = cmpPt x (fst l).1 := by
  by_cases h2 : (fst l).1.1 = 2
  · rw [fst_end h2, (fst_out h2).1, cmp_cn]
    unfold cmpPt sgn below
    simp only [ne_eq, hx, not_false_eq_true, if_true, decide_eq_true_eq]
    rw [if_pos (fun e => hx e.symm)]
    simp only [decide_eq_true_eq]
    split
    · rfl
    · rw [if_pos (by omega)]
  · rw [(fst_part h2).1]
    exact cmp_step x xs _ _ h
theorem cmp_last (l : List UInt8) : cmpP [] (parts l) = cmpPt (2, []) (fst l).1 := by
  by_cases h2 : (fst l).1.1 = 2
  · rw [fst_end h2, (fst_out h2).1, cmpPt_self]; rfl
  · rw [(fst_part h2).1, cmp_nc]
    unfold cmpPt sgn below
    rw [if_pos (fun e => h2 e.symm), if_pos h2]
    simp only [decide_eq_true_eq]
    split
    · rw [if_neg (by omega)]
      first | done | rfl
    · rw [if_pos (by omega)]
theorem cmp_all (a b : List UInt8) (p0 : List Pt) (x : Pt) (l : List UInt8) (h1 : p0 ++ [x] <+: parts a) (h2 : parts b = p0 ++ parts l) (h : cmpPt x (fst l).1 ≠ 0) : cmpPt x (fst l).1 = cmpV a b := by
  obtain ⟨tl, h3⟩ := h1
  have hx : x.1 ≠ 2 := by
    have := parts_kinds a x (by rw [← h3]; simp)
    omega
  unfold cmpV
  rw [h2, ← h3, List.append_assoc, List.singleton_append, cmp_ahead, cmp_first x tl l hx h]
theorem boxed_off {W : World} {B : Nat} {t : TypeId} {v : Value} (h : Boxed W B t v) (p : Addr) (hne : B ≠ p.block) (u : Value) : Boxed (W.setCell p u) B t v := (Below.heap_setCell W p u B hne).trans h
theorem ownFrom_ex {α β : Type} {B : Nat} {I : α → β → World → Prop} (h : ∀ y, OwnFrom B (I y)) : OwnFrom B (fun s W => ∃ y, I y s W) := fun s X Y row ⟨y, hs⟩ hg hr => ⟨y, h y s X Y row hs hg hr⟩

end Go.Proofs.YtlpalepkomkngaaDoor

namespace Go.Proofs.YtlpalepkomkngaaDoor
open Go.RowKit Ver Evr

theorem cmpE_less {n m : Int} {v r u s : ByteArray} (h : n < m) : cmpE (evrE n v r) (evrE m u s) = -1 := by unfold cmpE evrE; rw [if_pos h]
theorem cmpE_more {n m : Int} {v r u s : ByteArray} (h : m < n) : cmpE (evrE n v r) (evrE m u s) = 1 := by
  unfold cmpE evrE
  have : ¬ n < m := by omega
  simp [this, h]
theorem cmpE_ver {n : Int} {v r u s : ByteArray} (h : cmpV v.data.toList u.data.toList ≠ 0 ∨ r = ⟨#[]⟩ ∨ s = ⟨#[]⟩) : cmpE (evrE n v r) (evrE n u s) = cmpV v.data.toList u.data.toList := by
  unfold cmpE evrE
  simp only [Int.lt_irrefl, if_false]
  rw [if_pos (by rcases h with h | h | h; exact .inl h; exact .inr (.inl (empty_text.2 h)); exact .inr (.inr (empty_text.2 h)))]
theorem cmpE_rel {n : Int} {v r u s : ByteArray} (h : cmpV v.data.toList u.data.toList = 0) (hr : r ≠ ⟨#[]⟩) (hs : s ≠ ⟨#[]⟩) : cmpE (evrE n v r) (evrE n u s) = cmpV r.data.toList s.data.toList := by
  unfold cmpE evrE
  simp only [Int.lt_irrefl, if_false]
  rw [if_neg (by
    rintro (h1 | h1 | h1)
    · exact h1 h
    · exact hr (empty_text.1 h1)
    · exact hs (empty_text.1 h1))]

end Go.Proofs.YtlpalepkomkngaaDoor

namespace Go.Proofs.YtlpalepkomkngaaDoor
open Go.RowKit Ver Evr

def ordI (x y : Int) : Int := if x < y then -1 else if y < x then 1 else 0
section
variable (p q : Nat) (n m : Int) (v r u s : ByteArray) (w : World)
end

abbrev clos (f p q : Nat) : Value := .func (.func f) #[] #[.pointer (some ⟨p, 0, none⟩), .pointer (some ⟨q, 0, none⟩)]
abbrev Answers (f p q : Nat) (c : Int) (w : World) : Prop := ∀ W, Kept (fun _ => False) w W → Calls Tryd.prog f #[.pointer (some ⟨p, 0, none⟩), .pointer (some ⟨q, 0, none⟩)] W fun e W' => e = .returned (.int .i64 c) ∧ Kept (fun _ => False) W W'
section
end

/-- What decides, and what is then answered. -/
theorem cmpE_cases (n m : Int) (v r u s : ByteArray) :
    (ordI n m ≠ 0 ∧ cmpE (evrE n v r) (evrE m u s) = ordI n m) ∨
    (ordI n m = 0 ∧ cmpB v u ≠ 0 ∧ cmpE (evrE n v r) (evrE m u s) = cmpB v u) ∨
    (ordI n m = 0 ∧ cmpB v u = 0 ∧ (r = ⟨#[]⟩ ∨ s = ⟨#[]⟩) ∧ cmpE (evrE n v r) (evrE m u s) = 0) ∨
    (ordI n m = 0 ∧ cmpB v u = 0 ∧ r ≠ ⟨#[]⟩ ∧ s ≠ ⟨#[]⟩ ∧ cmpE (evrE n v r) (evrE m u s) = cmpB r s) := by
  rcases Int.lt_trichotomy n m with h | h | h
  · refine .inl ⟨by unfold ordI; rw [if_pos h]; decide, ?_⟩
    rw [cmpE_less h]; unfold ordI; rw [if_pos h]
  · subst h
    have h0 : ordI n n = 0 := by unfold ordI; rw [if_neg (by omega), if_neg (by omega)]
    refine .inr ?_
    by_cases h1 : cmpV v.data.toList u.data.toList = 0
    · refine .inr ?_
      by_cases h2 : r = ⟨#[]⟩ ∨ s = ⟨#[]⟩
      · exact .inl ⟨h0, h1, h2, (cmpE_ver (.inr h2)).trans h1⟩
      · have h3 : r ≠ ⟨#[]⟩ := fun e => h2 (.inl e)
        have h4 : s ≠ ⟨#[]⟩ := fun e => h2 (.inr e)
        exact .inr ⟨h0, h1, h3, h4, cmpE_rel h1 h3 h4⟩
    · exact .inl ⟨h0, h1, cmpE_ver (.inl h1)⟩
  · have hn : ¬ n < m := by omega
    refine .inl ⟨by unfold ordI; rw [if_neg hn, if_pos h]; decide, ?_⟩
    rw [cmpE_more h]; unfold ordI; rw [if_neg hn, if_pos h]

end Go.Proofs.YtlpalepkomkngaaDoor

namespace Go.Proofs.YtlpalepkomkngaaDoor
open Go.RowKit

/-- The worlds in which all old blocks lie as they lay, told by a map onto them. -/
theorem class_of (w : World) : ∃ (T : Type) (F : T → World) (t0 : T), F t0 = w.drew ∧ (∀ t, Kept (fun _ => False) w (F t)) ∧ ∀ t w', Kept (fun _ => False) (F t) w' → ∃ t', w' = F t' :=
  ⟨{ w' // Kept (fun _ => False) w w' }, Subtype.val, ⟨w.drew, (Kept.refl _ w).drew⟩, rfl, fun t => t.2, fun t w' h => ⟨⟨w', t.2.trans h (fun _ _ h => h)⟩, rfl⟩⟩
theorem wp_region_class {P : Program} {id : Nat} {Q : Exit → Act → World → Prop} {a : Act} {w : World} {l : List Oper} {T : Type} (F : T → World) (t0 : T) (h0 : F t0 = w.drew) (hm : P.follows .mixedOrders = true) (hB : Region.lexB .any l.toArray = true)
    (h : wpQuiet P l.toArray (fun w' => ∃ n, w' = F n) (fun a' => ∀ w', (∃ n, w' = F n) → Q .normal a' w') l a) : (Code.region id l.toArray true).wp P Q a w :=
  wp_region_quiet (C := fun w' => ∃ n, w' = F n) hm hB ⟨t0, h0.symm⟩ (by simpa using h)
theorem class_call {P : Program} {f : FuncId} {args : Array Value} {T : Type} {F : T → World} {t : T} {v : Value} (hs : ∀ t w', Kept (fun _ => False) (F t) w' → ∃ t', w' = F t')
    (h : Calls P f args (F t) fun e w' => e = .returned v ∧ Kept (fun _ => False) (F t) w') : Calls P f args (F t) fun e w' => e = .returned v ∧ ∃ m, w' = F m :=
  h.mono fun _ _ ⟨he, hk⟩ => ⟨he, hs t _ hk⟩
end Go.Proofs.YtlpalepkomkngaaDoor

namespace Go.Proofs.YtlpalepkomkngaaDoor
open Go.RowKit Go.Maps Span Evr

section
variable (nm : ByteArray) (o : Nat) (n : Int) (v r : ByteArray) (m : Int) (u x : ByteArray) (w : World) (ho : o < 256)
end
end Go.Proofs.YtlpalepkomkngaaDoor

namespace Go.Proofs.YtlpalepkomkngaaDoor
open Go.RowKit Go.Maps Span Evr

section
variable (nm : ByteArray) (o : Nat) (n : Int) (v r : ByteArray) (m : Int) (u x : ByteArray) (w : World) (ho : o < 256)
end
end Go.Proofs.YtlpalepkomkngaaDoor

namespace Go.Proofs.YtlpalepkomkngaaDoor
open Go.RowKit Go.Maps Span Evr

section
variable (nm : ByteArray) (o : Nat) (n : Int) (v r : ByteArray) (nb : ByteArray) (k : Nat) (m : Int) (u x : ByteArray) (w : World) (ho : o < 256) (hk : k < 256)
end
end Go.Proofs.YtlpalepkomkngaaDoor

namespace Go.Proofs.YtlpalepkomkngaaDoor
open Go.Shelf
open Go.RowKit
theorem info_byte : (Tryd.prog.info? 5).map (fun i => (i.zero, i.size, i.bytes)) = some (some (.int .u8 0), 1, 1) := by kernel_rfl

theorem rowF_form {w : World} {B n : Nat} {v : Value} {xs : List Value} (h : w.ownsRowF B 5 1 v n xs) : ∃ a c, v = .slice a n c := by
  rcases h.2 with ⟨h1, h2⟩ | ⟨g, cap, cur, fz, h1, _⟩
  · exact ⟨none, 0, by rw [h1, h2]⟩
  · exact ⟨_, _, h1⟩

end Go.Proofs.YtlpalepkomkngaaDoor
