/-
  A builder of the call's own: what is written to it, as bytes; what stands beside it. strconv.Itoa and strconv.Atoi, where the library's table and its two errors lie as its text lays them. The walk over the program's own Show: the text of an EVR, put together in a builder. strings.Clone: the same text; what was there lies as it lay. The walk over the program's own split: what stands in a text for an epoch, a version, a release. The walk over the program's own Parse: the EVR of a text. The walks over the program's own text of layer 6: the dependency of words. Conditions: the library's variables and the array of words that are no names lie as their texts lay them. The walk over the program's own text of layer 6: Own. The walks over the program's own text of layer 10: Own, meets, Named, Obsoletes, Provides. The walks over what the program asks of a list: whether any dependency, or text, in it is such; what a package obsoletes, and provides. The walks over the laws' own measure of layer 8: whether a rich dependency is more than a statement goes over. Packages as values: a record of what one reads as. Nothing of the program is named here but its types. Conditions: as each theorem states.
-/
import Derived.Test.YtlpalepkomkngaaDoorK09
import Derived.Test.YtlpalepkomkngaaDoorK01
import Derived.Test.YtlpalepkomkngaaDoorK05
import Derived.Test.YtlpalepkomkngaaDoorRows
import Derived.Shelf.Strconv.Itoa3
import Derived.Shelf.Strconv.AtoiAll
import Derived.Shelf.Strconv.ErrVarAll
import Derived.Lib.AppendIntMem
import Derived.Lib.LaidTab
import Derived.WalkKit
import Derived.Test.YtlpalepkomkngaaDoorK07
import Derived.Shelf.Strconv.Clone
import Derived.Deep.RegionWith
import Derived.Test.YtlpalepkomkngaaDoorK08
import Derived.BigRegion
import Derived.LoopN
import Derived.Handy
import Derived.Lib.Hide
import Derived.Deep.QuietTactic
namespace Go.Proofs.YtlpalepkomkngaaDoor
open Go.RowKit

theorem below_box {B g : Nat} {w w' : World} {t : TypeId} {cs : Array Value} (h : Below B w w') (hb : Box w g t cs) (hg : g < B) : Box w' g t cs := (h.block g hg).trans hb
theorem kept_past {S : Nat → Prop} {B : Nat} {a w w' : World} (h : Kept S a w) (k : Below B w w') (hB : a.heap.size ≤ B) : Kept S a w' :=
  ⟨k.os.trans h.os, k.tape.trans h.tape, k.output.trans h.output, Nat.le_trans h.size k.size, fun i hi hS => (k.block i (by omega)).trans (h.block i hi hS)⟩
end Go.Proofs.YtlpalepkomkngaaDoor

namespace Go.Proofs.YtlpalepkomkngaaDoor
open Go.Shelf
open Go.RowKit Evr
/-- The library's table of tens, and its two errors, as its own text lays them. -/
structure LibW (w : World) : Prop where
  pow : Lib.TabIs Tryd.prog w "internal/strconv.uint64pow10" .u64 Lib.pow10Tab
  syn : ∃ tp p, w.var? Tryd.prog "strconv.ErrSyntax" = some #[.iface tp p]
  rng : ∃ tp p, w.var? Tryd.prog "strconv.ErrRange" = some #[.iface tp p]
theorem var_kept {w w' : World} {n : String} {cs : Array Value} (h : w.var? Tryd.prog n = some cs) (k : Kept (fun _ => False) w w') : w'.var? Tryd.prog n = some cs := by
  unfold World.var? at h ⊢
  cases hg : Tryd.prog.globalNamed n with
  | none => rw [hg] at h; cases h
  | some g =>
    rw [hg] at h
    simp only [Option.bind_some] at h ⊢
    have hlt : g < w.heap.size := by
      by_cases hl : g < w.heap.size
      · exact hl
      · rw [Array.getElem?_eq_none (by omega)] at h; cases h
    rw [k.block g hlt (fun h => h)]
    exact h
theorem LibW.kept {w w' : World} (h : LibW w) (k : Kept (fun _ => False) w w') : LibW w' := by
  obtain ⟨t1, p1, h1⟩ := h.syn
  obtain ⟨t2, p2, h2⟩ := h.rng
  exact ⟨var_kept h.pow k, ⟨t1, p1, var_kept h1 k⟩, ⟨t2, p2, var_kept h2 k⟩⟩
end Go.Proofs.YtlpalepkomkngaaDoor

namespace Go.Proofs.YtlpalepkomkngaaDoor
open Go.RowKit Ver Evr

end Go.Proofs.YtlpalepkomkngaaDoor

namespace Go.Proofs.YtlpalepkomkngaaDoor
open Go.RowKit Go.Shelf
def lays316_ren : Go.Shelf.Ren := ⟨fun | 316 => 45 | n => n, fun | 9 => 9 | 3 => 3 | 4 => 4 | 37 => 98 | 0 => 0 | 127 => 99 | 5 => 5 | n => n, fun | n => n⟩
theorem lays316 : Go.Proofs.LaysM.n316 Tryd.prog lays316_ren := {
  mixed := by kernel_rfl
  f316 := Tryd.func45.trans (congrArg some (by kernel_rfl))
  t0 := Tryd.underlying0
  a0 := Tryd.isAgg0
  z0 := Tryd.sizeOf0
  v0 := Tryd.zeroValue0
  t3 := Tryd.underlying3
  a3 := Tryd.isAgg3
  z3 := Tryd.sizeOf3
  v3 := Tryd.zeroValue3
  t4 := Tryd.underlying4
  a4 := Tryd.isAgg4
  z4 := Tryd.sizeOf4
  v4 := Tryd.zeroValue4
  t9 := Tryd.underlying9
  a9 := Tryd.isAgg9
  z9 := Tryd.sizeOf9
  v9 := Tryd.zeroValue9
  t37 := Tryd.underlying98
  a37 := Tryd.isAgg98
  z37 := Tryd.sizeOf98
  v37 := Tryd.zeroValue98
  t127 := Tryd.underlying99
  a127 := Tryd.isAgg99
  z127 := Tryd.sizeOf99
  v127 := Tryd.zeroValue99
  t5 := Tryd.underlying5
  a5 := Tryd.isAgg5
  z5 := Tryd.sizeOf5
  v5 := Tryd.zeroValue5
  i0 := by kernel_rfl
  i3 := by kernel_rfl
  i4 := by kernel_rfl
  i5 := by kernel_rfl
  i9 := by kernel_rfl
  i37 := by kernel_rfl
  i127 := by kernel_rfl }

theorem clone_walk (s : ByteArray) (w : World) (hs : s.size ≤ 1000000) :
    Calls Tryd.prog 29 #[.string s] w fun e w' => e = .returned (.string s) ∧ Kept (fun _ => False) w w' := by
  have hc : ∀ W, Calls Tryd.prog 45 #[.string s] W fun e w' => e = .returned (.string s) ∧ Kept (fun _ => False) W w' := fun W =>
    (Any.stringslite_Clone lays316 s W (by omega)).mono fun _ _ ⟨h1, h2⟩ => ⟨h1, Kept.of_below h2 (fun i hi hb => by omega)⟩
  go_enter Tryd.func29, Tryd.ntmps29
  go_wp2_with (go_at_call 45; refine (hc _).mono ?_; rintro e w' ⟨rfl, hk⟩)
  go_ret
  exact ⟨rfl, hk⟩
end Go.Proofs.YtlpalepkomkngaaDoor

namespace Go.Proofs.YtlpalepkomkngaaDoor
open Go.RowKit Ver Evr

theorem cut_made (c : UInt8) (s : ByteArray) : ∃ (x y : ByteArray) (z : Bool), cut c s.data.toList = (x.data.toList, y.data.toList, z) ∧ x.size ≤ s.size ∧ y.size ≤ s.size := by
  have hsl : s.data.toList.length = s.size := rfl
  refine ⟨⟨(cut c s.data.toList).1.toArray⟩, ⟨(cut c s.data.toList).2.1.toArray⟩, (cut c s.data.toList).2.2, rfl, ?_, ?_⟩
  · show (cut c s.data.toList).1.toArray.size ≤ s.size
    rcases byte_index c s.data.toList with ⟨_, h⟩ | ⟨i, _, hi, h⟩
    · rw [h]; exact Nat.le_refl _
    · rw [h, ← hsl]; simp; omega
  · show (cut c s.data.toList).2.1.toArray.size ≤ s.size
    rcases byte_index c s.data.toList with ⟨_, h⟩ | ⟨i, _, hi, h⟩
    · rw [h]; simp
    · rw [h, ← hsl]; simp
end Go.Proofs.YtlpalepkomkngaaDoor

namespace Go.Proofs.YtlpalepkomkngaaDoor
open Go.RowKit Ver Evr

theorem parse_some {s : List UInt8} (h1 : mayE (splitE s) true = true) (h2 : showE (splitE s) = s) : parseE s = some (splitE s) := by rw [parse_split, if_pos ⟨h1, h2⟩]
theorem parse_none {s : List UInt8} (h : ¬ (mayE (splitE s) true = true ∧ showE (splitE s) = s)) : parseE s = none := by rw [parse_split, if_neg h]

end Go.Proofs.YtlpalepkomkngaaDoor

namespace Go.Proofs.YtlpalepkomkngaaDoor
open Go.RowKit Ver Evr Span Dep

/-- A dependency as cells. -/
abbrev depC (nm : ByteArray) (o : Nat) (n : Int) (v r : ByteArray) : Array Value := #[.string nm, .int .u8 (o : Int), .int .i64 n, .string v, .string r]
abbrev zeroC : Array Value := #[.string ⟨#[]⟩, .int .u8 0, .int .i64 0, .string ⟨#[]⟩, .string ⟨#[]⟩]
/-- What Of and Parse answer. -/
def ofV : Option D → Value
  | some d => .tuple #[.agg #[.string ⟨d.name.toArray⟩, .int .u8 (d.op : Int), .int .i64 d.evr.epoch, .string ⟨d.evr.ver.toArray⟩, .string ⟨d.evr.rel.toArray⟩], .int .i64 0]
  | none => .tuple #[.agg #[.string ⟨#[]⟩, .int .u8 0, .int .i64 0, .string ⟨#[]⟩, .string ⟨#[]⟩], .int .i64 4]
theorem of_back (nm : ByteArray) (o : Nat) (n : Int) (v r : ByteArray) : ofV (some (dD nm o n v r)) = .tuple #[.agg #[.string nm, .int .u8 (o : Int), .int .i64 n, .string v, .string r], .int .i64 0] := rfl
abbrev textsB (xs : List ByteArray) : List (List UInt8) := xs.map (·.data.toList)
theorem dep_pair {fn : Func} (hf : fn.results = #[.cell 2 71, .tmp 3]) (tmps : Array Value) (W : World) (g : Nat) (a b c d e x : Value) (h1 : tmps[2]?.getD undef = .pointer (some ⟨g, 0, none⟩)) (h2 : tmps[3]?.getD undef = x) (hB : Box W g 71 #[a, b, c, d, e]) :
    (results fn tmps).run Tryd.prog W = .ok (.tuple #[.agg #[a, b, c, d, e], x]) W := by
  have c0 : W.cell? ⟨g, 0, none⟩ = some a := hB.cell 0
  have c1 : W.cell? ⟨g, 1, none⟩ = some b := hB.cell 1
  have c2 : W.cell? ⟨g, 2, none⟩ = some c := hB.cell 2
  have c3 : W.cell? ⟨g, 3, none⟩ = some d := hB.cell 3
  have c4 : W.cell? ⟨g, 4, none⟩ = some e := hB.cell 4
  simp [results, hf, go_sem, h1, h2, c0, c1, c2, c3, c4]
theorem five {S : Nat → Prop} {a w : World} (h : Kept S a w) {g : Nat} (hg : a.heap.size ≤ g) (x0 x1 x2 x3 x4 : Value) : Kept S a (((((w.setCell ⟨g, 0, none⟩ x0).setCell ⟨g, 1, none⟩ x1).setCell ⟨g, 2, none⟩ x2).setCell ⟨g, 3, none⟩ x3).setCell ⟨g, 4, none⟩ x4) :=
  ((((h.setCell (p := ⟨g, 0, none⟩) (.inr hg) _).setCell (p := ⟨g, 1, none⟩) (.inr hg) _).setCell (p := ⟨g, 2, none⟩) (.inr hg) _).setCell (p := ⟨g, 3, none⟩) (.inr hg) _).setCell (p := ⟨g, 4, none⟩) (.inr hg) _
theorem five_box {w : World} {g : Nat} {t : TypeId} {a b c d e : Value} (h : Box w g t #[a, b, c, d, e]) (x0 x1 x2 x3 x4 : Value) : Box (((((w.setCell ⟨g, 0, none⟩ x0).setCell ⟨g, 1, none⟩ x1).setCell ⟨g, 2, none⟩ x2).setCell ⟨g, 3, none⟩ x3).setCell ⟨g, 4, none⟩ x4) g t #[x0, x1, x2, x3, x4] :=
  ((((h.stored 0 _).stored 1 _).stored 2 _).stored 3 _).stored 4 _

end Go.Proofs.YtlpalepkomkngaaDoor

namespace Go.Proofs.YtlpalepkomkngaaDoor
open Go.RowKit Ver Evr Span Dep

theorem dep_result6 {fn : Func} {p : Tmp} (h : fn.results = #[.cell p 71]) (tmps : Array Value) (W : World) (g : Nat) (cs : Array Value) (hp : tmps.getD p undef = .pointer (some ⟨g, 0, none⟩)) (hB : Box W g 71 cs) (hs : cs.size = 5) :
    (results fn tmps).run Tryd.prog W = .ok (.agg cs) W :=
  results_cell_row h tmps W g 71 cs (0, 0) _ hp hB Tryd.underlying71 rfl (by rw [hs]; kernel_rfl)
end Go.Proofs.YtlpalepkomkngaaDoor

namespace Go.Proofs.YtlpalepkomkngaaDoor
open Go.RowKit Ver Evr Span Dep Rich

end Go.Proofs.YtlpalepkomkngaaDoor

namespace Go.Proofs.YtlpalepkomkngaaDoor
open Go.RowKit Ver Evr Span Dep Rich

/-- What a function value answers to each of these. -/
def AnsF (g : Nat) (bs : Array Value) (f : De → Bool) (l : List De) (w : World) : Prop := ∀ e ∈ l, ∀ W, Kept (fun _ => False) w W → Calls Tryd.prog g (#[deV e] ++ bs) W fun x W' => x = .returned (.bool (f e)) ∧ Kept (fun _ => False) W W'
theorem AnsF.kept {g : Nat} {bs : Array Value} {f : De → Bool} {l : List De} {w w' : World} (h : AnsF g bs f l w) (hk : Kept (fun _ => False) w w') : AnsF g bs f l w' := fun e he W hW => h e he W (hk.trans hW (fun _ _ h => h))
set_option maxRecDepth 100000 in
set_option maxHeartbeats 4000000 in
theorem indexFunc_walk (g : Nat) (bs : Array Value) (eg : ∀ args w, (callFunc g args).run Tryd.prog w = .ok (.enter g args) w) (f : De → Bool) (l : List De) (va : Value) (w : World) (hl : l.length < 140737488355328) (hS : DesS w va l) (hF : AnsF g bs f l w) :
    Calls Tryd.prog 63 #[va, .func (.func g) #[] bs] w fun x w' => (∃ k : Int, x = .returned (.int .i64 k) ∧ decide (0 ≤ k) = l.any f) ∧ Kept (fun _ => False) w w' := by
  obtain ⟨ao, cp, rfl, hc⟩ := hS
  have HS := Lib.hid (show DesS w (.slice ao l.length cp) l from ⟨ao, cp, rfl, hc⟩)
  have HF := Lib.hid hF
  clear hc hF
  go_enter Tryd.func63, Tryd.ntmps63
  go_wp2_with fail
  go_loopw [8] (fun v8 wr => ∃ i : Nat, v8 = .int .i64 (i : Int) ∧ i ≤ l.length ∧ Hid ((l.take i).any f = false) ∧ Hid (Kept (fun _ => False) w wr)) (fun v8 _ => l.length - (intOf v8).toNat)
  case atStart => exact ⟨0, rfl, Nat.zero_le _, Lib.hid rfl, Lib.hid (Kept.refl _ _)⟩
  case round =>
    obtain ⟨i, rfl, hi, HN, HK⟩ := hrel
    rename World => wr
    by_cases hlt : i < l.length
    · obtain ⟨e, he⟩ : ∃ e, l[i]? = some e := ⟨_, List.getElem?_eq_getElem hlt⟩
      obtain ⟨_, b, off, rfl, hb, c0, c1, c2, c3, c4⟩ := (HS.out.kept HK.out).at he
      have hl' := HF.out e (List.mem_of_getElem? he) wr HK.out
      have HT := Lib.hid (any_get f l i e he HN.out)
      have HM := Lib.hid (List.mem_of_getElem? he)
      have hi0 : (0 : Int) ≤ (i : Int) := by omega
      have hiI : (i : Int) < (l.length : Int) := by omega
      obtain ⟨nm, o, n, v, r⟩ := e
      dsimp only at c0 c1 c2 c3 c4
      clear he hb HS HF
      cases hfe : f ⟨nm, o, n, v, r⟩ with
      | true =>
        rw [hfe] at hl'
        have HFE := Lib.hid hfe
        clear hfe
        go_wp2_with (first
          | (go_at_fn g; refine hl'.mono ?_; rintro x w2 ⟨rfl, hk2⟩)
          | fail)
        go_ret
        exact ⟨⟨(i : Int), rfl, by rw [List.any_eq_true.2 ⟨_, HM.out, HFE.out⟩]; simp⟩, HK.out.trans hk2 (fun _ _ h => h)⟩
      | false =>
        rw [hfe] at hl'
        have HFE := Lib.hid hfe
        clear hfe
        go_wp2_with (first
          | (go_at_fn g; refine hl'.mono ?_; rintro x w2 ⟨rfl, hk2⟩)
          | fail)
        go_roundw
        case rel => exact ⟨i + 1, by go_num, by omega, Lib.hid (HT.out.trans HFE.out), Lib.hid (HK.out.trans hk2 (fun _ _ h => h))⟩
        case measure => simp [intOf]; omega
    · obtain rfl : i = l.length := by omega
      clear hlt hi
      go_wp2_with fail
      go_ret
      exact ⟨⟨-1, rfl, by rw [← List.take_length (l := l), HN.out]; rfl⟩, HK.out⟩
set_option maxRecDepth 100000 in
set_option maxHeartbeats 4000000 in
theorem containsFunc_walk (g : Nat) (bs : Array Value) (eg : ∀ args w, (callFunc g args).run Tryd.prog w = .ok (.enter g args) w) (f : De → Bool) (l : List De) (va : Value) (w : World) (hl : l.length < 140737488355328) (hS : DesS w va l) (hF : AnsF g bs f l w) :
    Calls Tryd.prog 51 #[va, .func (.func g) #[] bs] w fun e w' => e = .returned (.bool (l.any f)) ∧ Kept (fun _ => False) w w' := by
  have IC := Lib.hid (indexFunc_walk g bs eg f l va w hl hS hF)
  clear hS hF eg
  go_enter Tryd.func51, Tryd.ntmps51
  go_wp2_with (first
    | (go_at_call 63; refine IC.out.mono ?_; rintro x w2 ⟨⟨k, rfl, hk⟩, hk2⟩; have HKE := Lib.hid hk; clear hk)
    | fail)
  go_ret
  exact ⟨by rw [← HKE.out]; rfl, hk2⟩
def provB (prov : List De) (fil : List ByteArray) (nm : ByteArray) (n : Int) (v r : ByteArray) (d : De) : Bool := namedB nm n v r d || prov.any (fun e => meetsB e d) || ((d.o : Int) == 0 && fil.any (fun u => decide (d.nm = u)))
end Go.Proofs.YtlpalepkomkngaaDoor

namespace Go.Proofs.YtlpalepkomkngaaDoor
open Go.RowKit Rich

mutual
/-- What much answers: how many parts, and whether they are more than a statement goes over. -/
def muchX : R → Nat → Nat × Bool
  | .mk _ d l, dp => if 20 < dp ∨ 100 < l.length ∨ 500 < d.name.length + d.evr.ver.length ∨ 500 < d.evr.rel.length then (0, true) else muchL l dp 1
def muchL : List R → Nat → Nat → Nat × Bool
  | [], _, n => (n, false)
  | x :: l, dp, n => if (muchX x (dp + 1)).2 = true ∨ 2000 < n + (muchX x (dp + 1)).1 then (0, true) else muchL l dp (n + (muchX x (dp + 1)).1)
end
mutual
/-- Each text, and each row, takes less than 2^47. -/
def fitsX : R → Prop
  | .mk _ d l => d.name.length < 140737488355328 ∧ d.evr.ver.length < 140737488355328 ∧ d.evr.rel.length < 140737488355328 ∧ l.length < 140737488355328 ∧ fitsL l
def fitsL : List R → Prop
  | [] => True
  | x :: l => fitsX x ∧ fitsL l
end
mutual
def smallX : R → Prop
  | .mk _ d l => d.name.length + d.evr.ver.length ≤ 500 ∧ d.evr.rel.length ≤ 500 ∧ l.length ≤ 100 ∧ smallL l
def smallL : List R → Prop
  | [] => True
  | x :: l => smallX x ∧ smallL l
end
theorem fitsL_mem : ∀ {l : List R} {x : R}, fitsL l → x ∈ l → fitsX x
  | y :: l, x, h, hx => by
    rw [fitsL] at h
    rcases List.mem_cons.1 hx with rfl | hx
    · exact h.1
    · exact fitsL_mem h.2 hx
theorem smallL_mem : ∀ {l : List R} {x : R}, smallL l → x ∈ l → smallX x
  | y :: l, x, h, hx => by
    rw [smallL] at h
    rcases List.mem_cons.1 hx with rfl | hx
    · exact h.1
    · exact smallL_mem h.2 hx
mutual
theorem much_le : ∀ (x : R) (dp : Nat), (muchX x dp).1 ≤ 2000 ∧ ((muchX x dp).2 = false → (muchX x dp).1 = count x ∧ smallX x)
  | .mk k d l, dp => by
    rw [muchX]
    split
    · exact ⟨by simp, fun h => by simp at h⟩
    · rename_i hc
      obtain ⟨h1, h2⟩ := muchL_le l dp 1 (by omega)
      refine ⟨h1, fun h => ?_⟩
      obtain ⟨g1, g2⟩ := h2 h
      rw [count, smallX]
      exact ⟨by omega, by omega, by omega, by omega, g2⟩
theorem muchL_le : ∀ (l : List R) (dp n : Nat), n ≤ 2000 → (muchL l dp n).1 ≤ 2000 ∧ ((muchL l dp n).2 = false → (muchL l dp n).1 = n + counts l ∧ smallL l)
  | [], dp, n, hn => by rw [muchL, counts, smallL]; exact ⟨hn, fun _ => ⟨rfl, trivial⟩⟩
  | x :: l, dp, n, hn => by
    rw [muchL]
    split
    · exact ⟨by simp, fun h => by simp at h⟩
    · rename_i hc
      obtain ⟨h1, h2⟩ := much_le x (dp + 1)
      obtain ⟨g1, g2⟩ := muchL_le l dp (n + (muchX x (dp + 1)).1) (by omega)
      refine ⟨g1, fun h => ?_⟩
      obtain ⟨e1, e2⟩ := g2 h
      obtain ⟨f1, f2⟩ := h2 (by cases hb : (muchX x (dp + 1)).2 with | false => rfl | true => exact absurd (.inl hb) hc)
      rw [counts, smallL]
      exact ⟨by omega, f2, e2⟩
end
end Go.Proofs.YtlpalepkomkngaaDoor

namespace Go.Proofs.YtlpalepkomkngaaDoor
open Go.RowKit Ver Evr Span Rich

def fitsDe (e : De) : Prop := e.nm.size < 140737488355328 ∧ e.o < 256 ∧ e.v.size < 140737488355328 ∧ e.r.size < 140737488355328
/-- What a package reads as. -/
structure Pk where
  nm : ByteArray
  n : Int
  v : ByteArray
  r : ByteArray
  a : Nat
  vd : ByteArray
  pv : List De
  rq : List R
  cf : List R
  ob : List De
  rc : List R
  sp : List R
  sg : List R
  en : List R
  fi : List ByteArray
/-- A slice of rich dependencies that reads as these. -/
def RisS (w : World) (v : Value) (l : List R) : Prop := ∃ ao cp, v = .slice ao l.length cp ∧ ArgS w ao 0 l
theorem RisS.kept {w w' : World} {v : Value} {l : List R} (h : RisS w v l) (hk : Kept (fun _ => False) w w') : RisS w' v l := by
  obtain ⟨ao, cp, h1, h2⟩ := h
  exact ⟨ao, cp, h1, ArgS.kept hk ao 0 l h2⟩
theorem RisS.nil (w : World) : RisS w (.slice none 0 0) [] := ⟨none, 0, rfl, by rw [ArgS]; trivial⟩
theorem StrS.nil10 (w : World) : StrS w (.slice none 0 0) [] := ⟨none, 0, rfl, fun i e hi => by simp at hi⟩
/-- The slices of a package. -/
structure Sl where
  s4 : Value
  s5 : Value
  s6 : Value
  s7 : Value
  s8 : Value
  s9 : Value
  s10 : Value
  s11 : Value
  s12 : Value
abbrev pkA (p : Pk) (s : Sl) : Array Value := #[.string p.nm, .int .i64 p.n, .string p.v, .string p.r, .int .u8 (p.a : Int), .string p.vd, s.s4, s.s5, s.s6, s.s7, s.s8, s.s9, s.s10, s.s11, s.s12]
/-- What is nil has no room. -/
def NilOk (v : Value) : Prop := ∀ n c, v = .slice none n c → n = 0 ∧ c = 0
theorem NilOk.zero : NilOk (.slice none 0 0) := fun n c h => by injection h with _ h1 h2; exact ⟨h1.symm, h2.symm⟩
theorem NilOk.some (a : Addr) (n c : Nat) : NilOk (.slice (some a) n c) := fun _ _ h => by injection h with h _ _; cases h
/-- What lies in a package's slices. -/
structure PkIn (w : World) (p : Pk) (s : Sl) : Prop where
  pv : DesS w s.s4 p.pv
  rq : RisS w s.s5 p.rq
  cf : RisS w s.s6 p.cf
  ob : DesS w s.s7 p.ob
  rc : RisS w s.s8 p.rc
  sp : RisS w s.s9 p.sp
  sg : RisS w s.s10 p.sg
  en : RisS w s.s11 p.en
  fi : StrS w s.s12 p.fi
  k4 : NilOk s.s4
  k5 : NilOk s.s5
  k6 : NilOk s.s6
  k7 : NilOk s.s7
  k8 : NilOk s.s8
  k9 : NilOk s.s9
  k10 : NilOk s.s10
  k11 : NilOk s.s11
  k12 : NilOk s.s12
theorem PkIn.kept {w w' : World} {p : Pk} {s : Sl} (h : PkIn w p s) (hk : Kept (fun _ => False) w w') : PkIn w' p s :=
  ⟨h.pv.kept hk, h.rq.kept hk, h.cf.kept hk, h.ob.kept hk, h.rc.kept hk, h.sp.kept hk, h.sg.kept hk, h.en.kept hk, h.fi.kept hk (fun _ _ _ _ h => h), h.k4, h.k5, h.k6, h.k7, h.k8, h.k9, h.k10, h.k11, h.k12⟩
def fitsLs (l : List R) : Prop := l.length < 140737488355328 ∧ fitsL l
/-- Each text, and each row, takes less than 2^47. -/
structure PkFits (p : Pk) : Prop where
  nm : p.nm.size < 140737488355328
  v : p.v.size < 140737488355328
  r : p.r.size < 140737488355328
  a : p.a < 256
  vd : p.vd.size < 140737488355328
  pvl : p.pv.length < 140737488355328
  pv : ∀ e ∈ p.pv, fitsDe e
  obl : p.ob.length < 140737488355328
  ob : ∀ e ∈ p.ob, fitsDe e
  rq : fitsLs p.rq
  cf : fitsLs p.cf
  rc : fitsLs p.rc
  sp : fitsLs p.sp
  sg : fitsLs p.sg
  en : fitsLs p.en
  fil : p.fi.length < 140737488355328
  fi : ∀ u ∈ p.fi, u.size < 140737488355328
/-- The value reads as this package. -/
def PkS (w : World) (p : Pk) (v : Value) : Prop := ∃ s : Sl, v = .agg (pkA p s) ∧ PkIn w p s
end Go.Proofs.YtlpalepkomkngaaDoor
