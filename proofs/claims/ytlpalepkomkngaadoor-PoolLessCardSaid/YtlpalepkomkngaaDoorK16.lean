/-
  Copies of rich dependencies in memory: which hold whatever becomes of older blocks. Nothing of the program is named here but its types. The walks over the document's counts of layer 8: how many parts, how deep. The walk over the document's part (layer 8). The walks over the document's Whole, and the word of a Kind (layer 8). A slice appended to a row of the call's own, where the slice may be nil. Nothing of the program is named here but its types. The walks over the document's words, and Words (layer 8). The walk over the document's Copy (layer 8). The walk over the document's Copy (layer 9). The walk over the document's copies of a list of rich dependencies (layer 10). The walk over what the laws of layer 10 ask of a list of rich dependencies first: of how many parts they are. The walk over what the laws of layer 10 ask first: whether a package is more than a statement goes over. Conditions: as each theorem states.
-/
import Derived.Test.YtlpalepkomkngaaDoorK05
import Derived.Test.YtlpalepkomkngaaDoorRows
import Derived.Handy
import Derived.Lib.Hide
import Derived.LoopN
import Derived.Deep.QuietTactic
import Derived.Test.YtlpalepkomkngaaDoorK10
import Derived.WalkKit
import Derived.Maps.AppendAt
import Derived.Deep.RegionLaw
import Derived.BigQuiet
import Derived.Test.YtlpalepkomkngaaDoorK09
import Derived.Deep.RegionHeld3
namespace Go.Proofs.YtlpalepkomkngaaDoor
open Go.RowKit
namespace Rich

/-- Reads so, whatever becomes of the blocks below base. -/
def RichN (base : Nat) (w : World) (x : R) (v : Value) : Prop := ∀ W, Kept (fun b => b < base) w W → RichS W x v
theorem RichN.here {base : Nat} {w : World} {x : R} {v : Value} (h : RichN base w x v) : RichS w x v := h w (Kept.refl _ _)
abbrev Pc := R × Option Addr × Nat
abbrev arrP (p : Pc) : Array Value := richA p.1.kind p.1.dep (.slice p.2.1 p.1.args.length p.2.2)
abbrev valP (p : Pc) : Value := .agg (arrP p)
def cellsP : List Pc → List Value
  | [] => []
  | p :: l => (arrP p).toList ++ cellsP l
theorem cellsP_app : ∀ a b : List Pc, cellsP (a ++ b) = cellsP a ++ cellsP b
  | [], _ => rfl
  | p :: a, b => by simp [cellsP, cellsP_app a b]
theorem cellsP_len : ∀ a : List Pc, (cellsP a).length = a.length * 7
  | [] => rfl
  | p :: a => by simp [cellsP, cellsP_len a]; omega
theorem cellsP_one : ∀ a : List Pc, ∀ u ∈ cellsP a, u.oneCell' = true
  | [], u, h => by simp [cellsP] at h
  | p :: a, u, h => by
    simp only [cellsP, List.mem_append] at h
    rcases h with h | h
    · simp at h
      rcases h with h | h | h | h | h | h | h <;> (rw [h]; rfl)
    · exact cellsP_one a u h
theorem cellsP_at : ∀ (l : List Pc) (i : Nat) (p : Pc), l[i]? = some p → ∀ (j : Nat) u, (arrP p).toList[j]? = some u → (cellsP l)[i * 7 + j]? = some u
  | [], _, _, h, _, _, _ => by simp at h
  | e :: l, 0, p, h, j, u, hu => by
    injection h with h
    subst h
    have hj : j < (arrP e).toList.length := (List.getElem?_eq_some_iff.1 hu).1
    rw [cellsP, Nat.zero_mul, Nat.zero_add, List.getElem?_append_left hj]
    exact hu
  | e :: l, i + 1, p, h, j, u, hu => by
    have := cellsP_at l i p (by simpa using h) j u hu
    have e0 : (i + 1) * 7 + j = (arrP e).toList.length + (i * 7 + j) := by simp; omega
    rw [cellsP, e0, List.getElem?_append_right (by omega), Nat.add_sub_cancel_left]
    exact this
/-- A part that was copied: it holds whatever becomes of what lies below its world, and what came of the world since is of that sort. -/
def Done8 (B : Nat) (vt : Value) (wr : World) (p : Pc) : Prop := ∃ wj bj, B ≤ bj ∧ RichN bj wj p.1 (valP p) ∧ Kept (fun b => b < bj) wj wr ∧ ∀ g, vt.ownBlock = some g → g < bj ∨ wj.heap.size ≤ g
theorem Done8.step {B o : Nat} {vt vt' : Value} {wr w' : World} {p : Pc} (h : Done8 B vt wr p) (hk : Kept (fun b => vt.ownBlock = some b ∨ b = o) wr w') (ho : o < B) (hv : vt'.ownBlock = vt.ownBlock ∨ ∃ n, wr.heap.size ≤ n ∧ vt'.ownBlock = some n) : Done8 B vt' w' p := by
  obtain ⟨wj, bj, h1, h2, h3, h4⟩ := h
  refine ⟨wj, bj, h1, h2, h3.trans hk fun i hi hs => ?_, fun g hg => ?_⟩
  · rcases hs with hs | hs
    · rcases h4 i hs with h | h
      · exact h
      · omega
    · omega
  · rcases hv with hv | ⟨n, hn, hv⟩
    · exact h4 g (by rw [← hv]; exact hg)
    · rw [hv] at hg
      injection hg with hg
      have := h3.size
      omega
/-- A row of copied parts reads as the whole. -/
theorem rich_made {B w0 k : Nat} {d : Dep.D} {l : List R} {ps : List Pc} {vt : Value} {wr : World} {e : TypeId} (hB : w0 ≤ B) (hk : k < 256) (hd : d.op < 256) (hp : ps.map Prod.fst = l) (ho : wr.ownsRow B e 7 vt l.length (cellsP ps)) (hD : ∀ p ∈ ps, Done8 B vt wr p) :
    RichN w0 wr (.mk k d l) (richV k d vt) := by
  intro W hW
  have hl : ps.length = l.length := by rw [← hp]; simp
  have ho' := hW.owns ho (fun i hi h => by have := (ho.lt i hi).1; omega)
  rw [RichS]
  rcases ho'.2 with ⟨hv, hn⟩ | ⟨g, cap, cur, rfl, hg, hh, _⟩
  · have : l = [] := List.eq_nil_of_length_eq_zero hn
    subst this
    exact ⟨none, 0, by rw [hv]; rfl, hk, hd, by rw [ArgS]; trivial⟩
  · refine ⟨some ⟨g, 0, none⟩, cap, rfl, hk, hd, ArgS.of fun i x hx => ?_⟩
    rw [← hp, List.getElem?_map] at hx
    obtain ⟨p, h1, rfl⟩ := Option.map_eq_some_iff.1 hx
    obtain ⟨wj, bj, g1, g2, g3, _⟩ := hD p (List.mem_of_getElem? h1)
    have hc := cellsP_at ps i p h1
    refine ⟨g, 0, valP p, rfl, ?_, g2 W (g3.trans hW fun i _ h => by omega), fun j u hj => ?_⟩
    · have := Array.getElem?_eq_some_iff.1 hh
      exact this.1
    · have := (own_cell ho' (hc j u hj)).1
      rw [show 0 + (0 + i) * 7 + j = i * 7 + j by omega]
      exact this
end Rich
end Go.Proofs.YtlpalepkomkngaaDoor

namespace Go.Proofs.YtlpalepkomkngaaDoor
open Go.RowKit Rich

theorem deeps_take {l : List R} {i : Nat} {x : R} (h : l[i]? = some x) : deeps (l.take (i + 1)) = max (deeps (l.take i)) (deep x) := by
  rw [List.take_add_one, h]
  have app : ∀ a b : List R, deeps (a ++ b) = max (deeps a) (deeps b) := by
    intro a b
    induction a with
    | nil => rw [deeps, List.nil_append]; omega
    | cons y a ih => rw [List.cons_append, deeps, deeps, ih]; omega
  rw [app]
  show max _ (deeps [x]) = _
  rw [deeps, deeps]
  omega
theorem deep_count : ∀ x : R, deep x ≤ count x := by
  refine R.ind fun k d l ih => ?_
  rw [deep, count]
  split
  · omega
  · have : deeps l ≤ counts l := by
      induction l with
      | nil => rw [deeps]; omega
      | cons y l ih2 =>
        rw [deeps, counts]
        have := ih y (by simp)
        have := ih2 (fun z hz => ih z (by simp [hz]))
        omega
    omega
end Go.Proofs.YtlpalepkomkngaaDoor

namespace Go.Proofs.YtlpalepkomkngaaDoor
open Go.RowKit Rich

theorem dep_zero (d : Dep.D) (W : World) : (binOp .eql 71 (.agg #[.string ⟨d.name.toArray⟩, .int .u8 (d.op : Int), .int .i64 d.evr.epoch, .string ⟨d.evr.ver.toArray⟩, .string ⟨d.evr.rel.toArray⟩]) (.agg #[.string ⟨#[]⟩, .int .u8 0, .int .i64 0, .string ⟨#[]⟩, .string ⟨#[]⟩])).run Tryd.prog W = .ok (.bool (noD d)) W := by
  obtain ⟨n, o, ⟨e, v, r⟩⟩ := d
  simp [go_sem, noD, Dep.noE]
  by_cases h1 : n = []
  · by_cases h2 : o = 0
    · by_cases h3 : e = 0
      · by_cases h4 : v = []
        · by_cases h5 : r = [] <;> simp [h1, h2, h3, h4, h5]
        · simp [h1, h2, h3, h4]
      · simp [h1, h2, h3]
    · simp [h1, h2]
  · simp [h1]
theorem allP_take_no {l : List R} {i : Nat} {x : R} (hx : l[i]? = some x) (h : Rich.part x = false) : allP l = false := by
  cases ha : allP l with
  | false => rfl
  | true =>
    have key : ∀ {l : List R}, allP l = true → ∀ y ∈ l, Rich.part y = true := by
      intro l
      induction l with
      | nil => intro _ y hy; simp at hy
      | cons z l ih =>
        intro hl y hy
        rw [allP, Bool.and_eq_true] at hl
        rcases List.mem_cons.1 hy with rfl | hy
        · exact hl.1
        · exact ih hl.2 y hy
    rw [key ha x (List.mem_of_getElem? hx)] at h
    cases h
theorem allP_take_yes : ∀ {l : List R}, (∀ x ∈ l, Rich.part x = true) → allP l = true
  | [], _ => by rw [allP]
  | x :: l, h => by rw [allP, h x (by simp), allP_take_yes (fun y hy => h y (by simp [hy]))]; rfl
end Go.Proofs.YtlpalepkomkngaaDoor

namespace Go.Proofs.YtlpalepkomkngaaDoor
open Go.RowKit Rich

end Go.Proofs.YtlpalepkomkngaaDoor

namespace Go.Proofs.YtlpalepkomkngaaDoor
open Go.RowKit

section
variable {P : Program} {w : World}
/-- append of a row of the call's own and a slice that reads as news, nil where that is empty. -/
theorem run_append_src (base : Nat) (t ty e : TypeId) (i : TypeInfo) (z : Value) (size bytes : Nat) (ht : P.underlying t = some (.slice e)) (hi : P.info? e = some i) (hz : i.zero = some z)
    (hsize : i.size = size) (hby : i.bytes = bytes) (hzs : z.cells.size = size) (hsz : 0 < size)
    (v : Value) (n : Nat) (xs : List Value) (hown : w.ownsRow base e size v n xs)
    (ao : Option Addr) (m c : Nat) (news : List Value) (hnil : ao = none → m = 0 ∧ c = 0) (hl : news.length = m * size) (hnews : ∀ j u, news[j]? = some u → ∃ ad, ao = some ad ∧ w.cell? (ad.add j) = some u) (h1 : ∀ u ∈ news, u.oneCell' = true)
    (h63 : n + m ≤ maxLen) (hbytes : (n + m) * bytes ≤ 140737488355328) (hbase : base ≤ w.heap.size) :
    ∃ v' w', (Builtin.append_ #[t, t] ty #[v, .slice ao m c]).run P w = .ok v' w' ∧ w'.ownsRow base e size v' (n + m) (xs ++ news) ∧ w.grownBy w' v.ownBlock ∧ (v'.ownBlock = v.ownBlock ∨ v'.ownBlock = some w.heap.size) := by
  cases ao with
  | some ad =>
    obtain ⟨v', w', hr, h2, h3, _, h5⟩ := run_append_own_at (P := P) w base t ty e i z size bytes ht hi hz hsize hby hzs hsz v n xs hown ad m c news hl (fun j u hj => by
      obtain ⟨ad', e1, h⟩ := hnews j u hj
      injection e1 with e1
      subst e1
      exact h) h1 h63 hbytes hbase
    exact ⟨v', w', hr, h2, h3, h5⟩
  | none =>
    obtain ⟨rfl, rfl⟩ := hnil rfl
    have hn : news = [] := List.eq_nil_of_length_eq_zero (by simpa using hl)
    subst hn
    refine ⟨v, w, run_append_owned_none (P := P) (w := w) base t ty e i size ht hi v n xs hown, by simpa using hown, World.grownBy.refl _ _, .inl rfl⟩
theorem wp_append_src {o : Oper} {a : Act} {K : Act → World → Prop} {Q : Exit → Act → World → Prop} (s x : Operand) (t : TypeId)
    (ho : o.op = .call { callee := .builtin .append, args := #[s, x], argTypes := #[t, t] })
    (wr : World) (hkr : Kept (fun _ => False) wr w) (e : TypeId) (i : TypeInfo) (z : Value) (size bytes : Nat) (ht : P.underlying t = some (.slice e)) (hi : P.info? e = some i) (hz : i.zero = some z)
    (hsize : i.size = size) (hby : i.bytes = bytes) (hzs : z.cells.size = size) (hsz : 0 < size)
    (v : Value) (n : Nat) (xs : List Value) (hs : a.eval s = v) (hown : w.ownsRow wr.heap.size e size v n xs)
    (ao : Option Addr) (m c : Nat) (news : List Value) (hx : a.eval x = .slice ao m c) (hnil : ao = none → m = 0 ∧ c = 0) (hl : news.length = m * size) (hnews : ∀ j u, news[j]? = some u → ∃ ad, ao = some ad ∧ w.cell? (ad.add j) = some u) (h1 : ∀ u ∈ news, u.oneCell' = true)
    (h63 : n + m ≤ maxLen) (hbytes : (n + m) * bytes ≤ 140737488355328)
    (h : ∀ v' w', w'.ownsRow wr.heap.size e size v' (n + m) (xs ++ news) → Kept (fun _ => False) wr w' → w.grownBy w' v.ownBlock → K (a.put o.dst v') w') : o.wp P a w K Q := by
  obtain ⟨v', w', hr, h2, h3, h4⟩ := run_append_src (P := P) (w := w) wr.heap.size t o.type e i z size bytes ht hi hz hsize hby hzs hsz v n xs hown ao m c news hnil hl hnews h1 h63 hbytes hkr.size
  unfold Oper.wp execOp
  simp only [ho, resolve, invoke, builtin, Sem.run_bind, Sem.run_pure, Result.andThen_ok, List.map_toArray, List.map_cons, List.map_nil, hs, hx, hr]
  exact h v' w' h2 (hkr.grown h3 (fun j hj => .inr (hown.lt j hj).1)) h3
end

theorem info_str : (Tryd.prog.info? 9).map (fun i => (i.zero, i.size, i.bytes)) = some (some (.string ⟨#[]⟩), 1, 16) := by kernel_rfl
theorem cellsS_one (a : List ByteArray) : ∀ u ∈ cellsS a, u.oneCell' = true := by
  intro u hu
  obtain ⟨_, _, rfl⟩ := List.mem_map.1 hu
  rfl
theorem wpList_append_src {P : Program} {w : World} {ops : Array Oper} {rest : List Oper} {o : Oper} {a : Act} {Q : Exit → Act → World → Prop} (hgd : o.guard = none) (s x : Operand) (t : TypeId)
    (ho : o.op = .call { callee := .builtin .append, args := #[s, x], argTypes := #[t, t] })
    (base : Nat) (e : TypeId) (i : TypeInfo) (z : Value) (size bytes : Nat) (ht : P.underlying t = some (.slice e)) (hi : P.info? e = some i) (hz : i.zero = some z)
    (hsize : i.size = size) (hby : i.bytes = bytes) (hzs : z.cells.size = size) (hsz : 0 < size)
    (v : Value) (n : Nat) (xs : List Value) (hs : a.eval s = v) (hown : w.ownsRow base e size v n xs)
    (ao : Option Addr) (m c : Nat) (news : List Value) (hx : a.eval x = .slice ao m c) (hnil : ao = none → m = 0 ∧ c = 0) (hl : news.length = m * size) (hnews : ∀ j u, news[j]? = some u → ∃ ad, ao = some ad ∧ w.cell? (ad.add j) = some u) (h1 : ∀ u ∈ news, u.oneCell' = true)
    (h63 : n + m ≤ maxLen) (hbytes : (n + m) * bytes ≤ 140737488355328) (hbase : base ≤ w.heap.size)
    (h : ∀ v' w', w'.ownsRow base e size v' (n + m) (xs ++ news) → w.grownBy w' v.ownBlock → (v'.ownBlock = v.ownBlock ∨ v'.ownBlock = some w.heap.size) → wpList P ops Q rest (a.put o.dst v') w') :
    wpList P ops Q (o :: rest) a w := by
  refine wpList_plain hgd fun K hK => ?_
  obtain ⟨v', w', hr, h2, h3, h4⟩ := run_append_src (P := P) (w := w) base t o.type e i z size bytes ht hi hz hsize hby hzs hsz v n xs hown ao m c news hnil hl hnews h1 h63 hbytes hbase
  unfold Oper.wp execOp
  simp only [ho, resolve, invoke, builtin, Sem.run_bind, Sem.run_pure, Result.andThen_ok, List.map_toArray, List.map_cons, List.map_nil, hs, hx, hr]
  exact hK _ _ (h v' w' h2 h3 h4)

end Go.Proofs.YtlpalepkomkngaaDoor

namespace Go.Proofs.YtlpalepkomkngaaDoor
open Go.RowKit Rich
open Dep (wordsD)

abbrev bytesV (l : List (List UInt8)) : List ByteArray := l.map fun x => ⟨x.toArray⟩
theorem own_one8 {w : World} {B g : Nat} {e : TypeId} {x : Value} (hB : B ≤ g) (hb : Box w g e #[x]) : w.ownsRow B e 1 (.slice (some ⟨g, 0, none⟩) 1 1) 1 [x] :=
  ⟨rfl, .inr ⟨g, 1, #[x], rfl, hB, hb, Nat.le_refl _, by unfold maxLen; omega, rfl, rfl⟩⟩
theorem one_new8 (W : World) (t : TypeId) (s : ByteArray) : ∀ (j : Nat) u, (cellsS [s])[j]? = some u → (W.alloc (.cells #[.string s] t)).cell? ((⟨W.heap.size, 0, none⟩ : Addr).add j) = some u := by
  intro j u hj
  match j, hj with
  | 0, hj => simp [cellsS] at hj; subst hj; simp [Addr.add]
  | j + 1, hj => simp [cellsS] at hj
theorem box_grown8 {w w1 : World} {g base n size : Nat} {e t : TypeId} {v : Value} {xs : List Value} {cs : Array Value} (hb : Box w g t cs) (ho : w.ownsRow base e size v n xs) (hg : w.grownBy w1 v.ownBlock) (hlt : g < base) : Box w1 g t cs :=
  (hg.block g hb.lt (fun e => by have := (ho.lt g e.symm).1; omega)).trans hb
mutual
theorem wordsR_len : ∀ x : R, Rich.part x = true → (wordsR x).length + 1 ≤ 4 * count x
  | .mk k d l, h => by
    rw [count]
    by_cases hk : k = 1
    · subst hk
      rw [wordsR, if_pos rfl]
      by_cases h0 : d.op = 0
      · rw [wordsD_any h0]; simp; omega
      · rw [wordsD_op h0]; simp; omega
    · rw [Rich.part, if_neg hk, Bool.and_eq_true, Bool.and_eq_true] at h
      have := wordsL_len l h.1.2 k 0
      rw [wordsR, if_neg hk]
      simp only [List.length_cons, List.length_append, List.length_nil]
      omega
theorem wordsL_len : ∀ l : List R, allP l = true → ∀ k i, (wordsL k i l).length ≤ 4 * counts l
  | [], _, k, i => by rw [wordsL, counts]; simp
  | x :: l, h, k, i => by
    rw [allP, Bool.and_eq_true] at h
    have h1 := wordsR_len x h.1
    have h2 := wordsL_len l h.2 k (i + 1)
    have h3 : (sepL k i).length ≤ 1 := by unfold sepL; split <;> simp
    rw [wordsL, counts]
    simp only [List.length_append]
    omega
end
theorem wordsL_take (k : Nat) : ∀ (l : List R) (i0 i : Nat) (x : R), l[i]? = some x → wordsL k i0 (l.take (i + 1)) = wordsL k i0 (l.take i) ++ (sepL k (i0 + i) ++ wordsR x)
  | [], _, _, _, h => by simp at h
  | y :: l, i0, 0, x, h => by
    simp at h
    subst h
    rw [List.take_succ_cons, List.take_zero, List.take_zero, wordsL, wordsL, wordsL]
    simp
  | y :: l, i0, i + 1, x, h => by
    rw [List.take_succ_cons, List.take_succ_cons, wordsL, wordsL, wordsL_take k l (i0 + 1) i x (by simpa using h), show i0 + 1 + i = i0 + (i + 1) by omega]
    simp
theorem allP_at {l : List R} (h : allP l = true) {x : R} (hx : x ∈ l) : Rich.part x = true := by
  cases hp : Rich.part x with
  | true => rfl
  | false =>
    obtain ⟨i, hi, he⟩ := List.getElem_of_mem hx
    rw [allP_take_no (i := i) (by rw [List.getElem?_eq_getElem hi, he]) hp] at h
    cases h
theorem cells_at8 {w : World} {ad : Addr} {X : List ByteArray} (h : ∀ (j : Nat) (u : ByteArray), X[j]? = some u → ∃ a : Addr, some ad = some a ∧ w.cell? (a.add j) = some (.string u) ∧ a.block < w.heap.size) : ∀ (j : Nat) u, (cellsS X)[j]? = some u → w.cell? (ad.add j) = some u := by
  intro j u hj
  simp only [cellsS, List.getElem?_map, Option.map_eq_some_iff] at hj
  obtain ⟨y, hy, rfl⟩ := hj
  obtain ⟨a, e, h1, _⟩ := h j y hy
  injection e with e
  subst e
  exact h1
theorem words_some (x : R) : wordsR x ≠ [] := by
  obtain ⟨k, d, l⟩ := x
  rw [wordsR]
  split
  · exact Dep.words_ne d
  · simp
end Go.Proofs.YtlpalepkomkngaaDoor

namespace Go.Proofs.YtlpalepkomkngaaDoor
open Go.RowKit Rich

theorem info_rich8 : (Tryd.prog.info? 75).map (fun i => (i.zero, i.size, i.bytes)) = some (some (.agg #[.int .u8 0, .string ⟨#[]⟩, .int .u8 0, .int .i64 0, .string ⟨#[]⟩, .string ⟨#[]⟩, .slice none 0 0]), 7, 96) := by kernel_rfl
theorem wp_append_own8 {P : Program} {w : World} {o : Oper} {a : Act} {K : Act → World → Prop} {Q : Exit → Act → World → Prop} (s x : Operand) (t : TypeId)
    (ho : o.op = .call { callee := .builtin .append, args := #[s, x], argTypes := #[t, t] })
    (base : Nat) (e : TypeId) (i : TypeInfo) (z : Value) (size bytes : Nat) (ht : P.underlying t = some (.slice e)) (hi : P.info? e = some i) (hz : i.zero = some z)
    (hsize : i.size = size) (hby : i.bytes = bytes) (hzs : z.cells.size = size) (hsz : 0 < size)
    (v : Value) (n : Nat) (xs : List Value) (hs : a.eval s = v) (hown : w.ownsRow base e size v n xs)
    (ad : Addr) (m c : Nat) (news : List Value) (hx : a.eval x = .slice (some ad) m c) (hl : news.length = m * size) (hnews : ∀ j u, news[j]? = some u → w.cell? (ad.add j) = some u) (h1 : ∀ u ∈ news, u.oneCell' = true)
    (h63 : n + m ≤ maxLen) (hbytes : (n + m) * bytes ≤ 140737488355328) (hbase : base ≤ w.heap.size)
    (h : ∀ v' w', w'.ownsRow base e size v' (n + m) (xs ++ news) → w.grownBy w' v.ownBlock → (v'.ownBlock = v.ownBlock ∨ v'.ownBlock = some w.heap.size) → K (a.put o.dst v') w') : o.wp P a w K Q := by
  obtain ⟨v', w', hr, h2, h3, _, h5⟩ := run_append_own_at (P := P) w base t o.type e i z size bytes ht hi hz hsize hby hzs hsz v n xs hown ad m c news hl hnews h1 h63 hbytes hbase
  unfold Oper.wp execOp
  simp only [ho, resolve, invoke, builtin, Sem.run_bind, Sem.run_pure, Result.andThen_ok, List.map_toArray, List.map_cons, List.map_nil, hs, hx, hr]
  exact h v' w' h2 h3 h5
theorem one_rich8 (W : World) (t : TypeId) (cs : Array Value) : ∀ (j : Nat) u, cs.toList[j]? = some u → (W.alloc (.cells cs t)).cell? ((⟨W.heap.size, 0, none⟩ : Addr).add j) = some u := by
  intro j u hj
  have h := (Box.made W t cs).cell j
  rw [show ((⟨W.heap.size, 0, none⟩ : Addr).add j) = ⟨W.heap.size, j, none⟩ by simp [Addr.add]; try omega, h]
  simpa using hj
/-- What a round leaves. -/
theorem copy_round8 {w wr w5 w9 : World} {e : TypeId} {k i : Nat} {d : Dep.D} {vt v' : Value} {cs zs : Array Value} {ps : List Pc} {p : Pc} {o : Obj}
    (HR : wr.ownsRow (w.heap.size + 3) e 7 vt i (Rich.cellsP ps)) (HBr : Box wr w.heap.size e cs) (HBz : Box wr (w.heap.size + 1) e zs) (HBo : Box wr (w.heap.size + 1 + 1) e (richA k d vt)) (HK : Kept (fun _ => False) w wr)
    (HD : ∀ q ∈ ps, Done8 (w.heap.size + 3) vt wr q) (hk5 : Kept (fun _ => False) wr.drew w5) (hv5 : RichN wr.drew.heap.size w5 p.1 (valP p))
    (hown : w9.ownsRow (w.heap.size + 3) e 7 v' (i + 1) (Rich.cellsP ps ++ (arrP p).toList)) (hg : (w5.alloc o).grownBy w9 vt.ownBlock) (hb : v'.ownBlock = vt.ownBlock ∨ v'.ownBlock = some (w5.alloc o).heap.size) :
    (w9.setCell ⟨w.heap.size + 1 + 1, 6, none⟩ v').ownsRow (w.heap.size + 3) e 7 v' (i + 1) (Rich.cellsP (ps ++ [p])) ∧ Box (w9.setCell ⟨w.heap.size + 1 + 1, 6, none⟩ v') w.heap.size e cs ∧ Box (w9.setCell ⟨w.heap.size + 1 + 1, 6, none⟩ v') (w.heap.size + 1) e zs ∧ Box (w9.setCell ⟨w.heap.size + 1 + 1, 6, none⟩ v') (w.heap.size + 1 + 1) e (richA k d v') ∧ Kept (fun _ => False) w (w9.setCell ⟨w.heap.size + 1 + 1, 6, none⟩ v') ∧ ∀ q ∈ ps ++ [p], Done8 (w.heap.size + 3) v' (w9.setCell ⟨w.heap.size + 1 + 1, 6, none⟩ v') q := by
  have K5 : Kept (fun _ => False) wr w5 := (Kept.drew (Kept.refl _ wr)).trans hk5 (fun _ _ h => h)
  have hlt := HBo.lt
  have h5 := K5.size
  have KS : Kept (fun b => b = w.heap.size + 1 + 1) w9 (w9.setCell ⟨w.heap.size + 1 + 1, 6, none⟩ v') := Kept.setCell (S := fun b => b = w.heap.size + 1 + 1) (Kept.refl _ w9) (.inl rfl) _
  have R5 := (K5.owns HR (fun _ _ h => h)).alloc o
  have g1 := box_grown8 ((K5.box HBr (fun h => h)).after_alloc o) R5 hg (by omega)
  have g2 := box_grown8 ((K5.box HBz (fun h => h)).after_alloc o) R5 hg (by omega)
  have g3 := box_grown8 ((K5.box HBo (fun h => h)).after_alloc o) R5 hg (by omega)
  have KW : Kept (fun b => vt.ownBlock = some b ∨ b = w.heap.size + 1 + 1) wr (w9.setCell ⟨w.heap.size + 1 + 1, 6, none⟩ v') :=
    (((K5.weaker (fun _ _ h => h.elim)).alloc o).grown hg (fun i hi => .inl (.inl hi))).trans KS (fun i _ h => .inr h)
  refine ⟨?_, KS.box g1 (by omega), KS.box g2 (by omega), ?_, HK.trans KW ?_, ?_⟩
  · rw [Rich.cellsP_app]
    simp only [Rich.cellsP, List.append_nil]
    exact KS.owns hown (fun i hi h => by have := (hown.lt i hi).1; omega)
  · exact g3.stored 6 v'
  · intro i hi h
    rcases h with h | h
    · have := (HR.lt i h).1; omega
    · omega
  · intro q hq
    rcases List.mem_append.1 hq with hq | hq
    · refine (HD q hq).step KW (by omega) ?_
      rcases hb with hb | hb
      · exact .inl hb
      · exact .inr ⟨_, by simp; omega, hb⟩
    · simp at hq
      subst hq
      refine ⟨w5, wr.heap.size, by omega, hv5, ((((Kept.refl _ w5)).alloc o).grown hg (fun i hi => .inl (HR.lt i hi).2)).trans KS (fun i _ h => by omega), fun g hgo => ?_⟩
      rcases hb with hb | hb
      · rw [hb] at hgo
        exact .inl (HR.lt g hgo).2
      · rw [hb] at hgo
        injection hgo with hgo
        simp at hgo
        omega
theorem copy_result {fn : Func} {p : Tmp} (h : fn.results = #[.cell p 75]) (tmps : Array Value) (W : World) (g : Nat) (cs : Array Value) (hp : tmps.getD p undef = .pointer (some ⟨g, 0, none⟩)) (hB : Box W g 75 cs) (hs : cs.size = 7) :
    (results fn tmps).run Tryd.prog W = .ok (.agg cs) W :=
  results_cell_row h tmps W g 75 cs (0, 0) _ hp hB Tryd.underlying75 rfl (by rw [hs]; kernel_rfl)
end Go.Proofs.YtlpalepkomkngaaDoor

namespace Go.Proofs.YtlpalepkomkngaaDoor
open Go.RowKit Rich

end Go.Proofs.YtlpalepkomkngaaDoor

namespace Go.Proofs.YtlpalepkomkngaaDoor
open Go.RowKit Ver Evr Span Dep Rich

/-- Reads so, whatever becomes of the blocks below base. -/
def RisN (base : Nat) (w : World) (v : Value) (l : List R) : Prop := ∀ W, Kept (fun b => b < base) w W → RisS W v l
theorem RisN.here {base : Nat} {w : World} {v : Value} {l : List R} (h : RisN base w v l) : RisS w v l := h w (Kept.refl _ _)
theorem RisN.kept {base : Nat} {w w' : World} {v : Value} {l : List R} (h : RisN base w v l) (hk : Kept (fun b => b < base) w w') : RisN base w' v l := fun W hW => h W (hk.trans hW (fun _ _ h => h))
theorem RisN.less {a b : Nat} {w : World} {v : Value} {l : List R} (h : RisN a w v l) (hb : b ≤ a) : RisN b w v l := fun W hW => h W (hW.weaker (fun _ _ hi => Nat.lt_of_lt_of_le hi hb))
/-- It has room for what it holds. -/
def CapOk (v : Value) : Prop := ∀ a n c, v = .slice a n c → n ≤ c
theorem capOk_own {w : World} {base size n : Nat} {e : TypeId} {v : Value} {xs : List Value} (h : w.ownsRow base e size v n xs) : CapOk v := fun a k c hv => by
  rcases h.2 with ⟨h1, h2⟩ | ⟨g, cap, cur, e1, _, _, h3, _⟩
  · rw [h1] at hv
    injection hv with _ h4 h5
    omega
  · rw [e1] at hv
    injection hv with _ h4 h5
    omega
theorem one_rich10 (k : Nat) (d : D) (sl : Value) : ∀ u ∈ (richA k d sl).toList, (∃ ao n cp, sl = .slice ao n cp) → u.oneCell' = true := by
  intro u hu ⟨ao, n, cp, hs⟩
  subst hs
  simp at hu
  rcases hu with h | h | h | h | h | h | h <;> (rw [h]; rfl)
theorem copied_round {B i : Nat} {e : TypeId} {vt v' : Value} {wr w5 w9 : World} {ps : List Pc} {p : Pc} {ob : Obj} (hR : wr.ownsRow B e 7 vt i (Rich.cellsP ps)) (hD : ∀ q ∈ ps, Done8 B vt wr q) (hB : B ≤ wr.heap.size)
    (hK5 : Kept (fun _ => False) wr w5) (hN5 : RichN wr.heap.size w5 p.1 (valP p)) (hg : (w5.alloc ob).grownBy w9 vt.ownBlock) (hb : v'.ownBlock = vt.ownBlock ∨ v'.ownBlock = some (w5.alloc ob).heap.size) : ∀ q ∈ ps ++ [p], Done8 B v' w9 q := by
  have hk : Kept (fun b => vt.ownBlock = some b) wr w9 := (((hK5.weaker (fun _ _ h => h.elim)).alloc ob).grown hg (fun i hi => .inl hi))
  have hk2 : Kept (fun b => b < wr.heap.size) w5 w9 := (((Kept.refl _ w5).alloc ob).grown hg (fun i hi => .inl (hR.lt i hi).2))
  have hs5 := hK5.size
  have hsz : (w5.alloc ob).heap.size = w5.heap.size + 1 := by simp [World.size_alloc]
  intro q hq
  rcases List.mem_append.1 hq with hq | hq
  · obtain ⟨wj, bj, h1, h2, h3, h4⟩ := hD q hq
    refine ⟨wj, bj, h1, h2, h3.trans hk fun i hi hs => ?_, fun g hg' => ?_⟩
    · rcases h4 i hs with h | h
      · exact h
      · omega
    · rcases hb with hb | hb
      · exact h4 g (by rw [← hb]; exact hg')
      · rw [hb] at hg'
        injection hg' with hg'
        have := h3.size
        omega
  · have : q = p := by simpa using hq
    subst this
    refine ⟨w5, wr.heap.size, hB, hN5, hk2, fun g hg' => ?_⟩
    rcases hb with hb | hb
    · rw [hb] at hg'
      exact .inl (hR.lt g hg').2
    · rw [hb] at hg'
      injection hg' with hg'
      omega
end Go.Proofs.YtlpalepkomkngaaDoor

namespace Go.Proofs.YtlpalepkomkngaaDoor
open Go.RowKit Ver Evr Span Dep Rich

def MuchV (l : List R) (v : Value) : Prop := ∃ (k : Nat) (b : Bool), v = .tuple #[.int .i64 (k : Int), .bool b] ∧ k ≤ 2000 ∧ (b = false → k = counts l ∧ l.length ≤ 100 ∧ smallL l)
theorem smallL_app : ∀ {a : List R} {x : R}, smallL a → smallX x → smallL (a ++ [x])
  | [], _, _, hx => by rw [List.nil_append, smallL, smallL]; exact ⟨hx, trivial⟩
  | y :: a, _, ha, hx => by
    rw [smallL] at ha
    rw [List.cons_append, smallL]
    exact ⟨ha.1, smallL_app ha.2 hx⟩
end Go.Proofs.YtlpalepkomkngaaDoor

namespace Go.Proofs.YtlpalepkomkngaaDoor
open Go.RowKit Ver Evr Span Dep Rich

def cellsDe (l : List De) : List Value := l.flatMap fun e => (deA e).toList
theorem cellsDe_app (a b : List De) : cellsDe (a ++ b) = cellsDe a ++ cellsDe b := List.flatMap_append
theorem cellsDe_len (l : List De) : (cellsDe l).length = l.length * 5 := by
  induction l with
  | nil => rfl
  | cons d l ih => rw [show cellsDe (d :: l) = (deA d).toList ++ cellsDe l from rfl, List.length_append, ih]; show 5 + l.length * 5 = (l.length + 1) * 5; omega
theorem cellsDe_one (l : List De) : ∀ u ∈ cellsDe l, u.oneCell' = true := by
  intro u hu
  obtain ⟨d, _, hu⟩ := List.mem_flatMap.1 hu
  simp only [List.mem_cons, List.not_mem_nil, or_false] at hu
  rcases hu with rfl | rfl | rfl | rfl | rfl <;> rfl
theorem cellsDe_at : ∀ (l : List De) (i : Nat) (d : De), l[i]? = some d → ∀ (j : Nat) (u : Value), (deA d).toList[j]? = some u → (cellsDe l)[i * 5 + j]? = some u
  | [], i, d, h, _, _, _ => by simp at h
  | x :: l, 0, d, h, j, u, hj => by
    have : x = d := by simpa using h
    subst this
    show ((deA x).toList ++ cellsDe l)[0 * 5 + j]? = some u
    rw [Nat.zero_mul, Nat.zero_add, List.getElem?_append_left (List.getElem?_eq_some_iff.1 hj).1, hj]
  | x :: l, i + 1, d, h, j, u, hj => by
    have ih := cellsDe_at l i d (by simpa using h) j u hj
    show ((deA x).toList ++ cellsDe l)[(i + 1) * 5 + j]? = some u
    rw [List.getElem?_append_right (by show 5 ≤ _; omega), ← ih]
    show (cellsDe l)[(i + 1) * 5 + j - 5]? = _
    rw [show (i + 1) * 5 + j - 5 = i * 5 + j by omega]
/-- Which cell of which element. -/
theorem cellsDe_inv : ∀ (l : List De) (k : Nat) (u : Value), (cellsDe l)[k]? = some u → ∃ (i j : Nat) (d : De), k = i * 5 + j ∧ l[i]? = some d ∧ (deA d).toList[j]? = some u
  | [], k, u, h => by simp [cellsDe] at h
  | x :: l, k, u, h => by
    have h' : ((deA x).toList ++ cellsDe l)[k]? = some u := h
    by_cases hk : k < 5
    · rw [List.getElem?_append_left (by show k < 5; exact hk)] at h'
      exact ⟨0, k, x, by omega, rfl, h'⟩
    · rw [List.getElem?_append_right (by show 5 ≤ k; omega)] at h'
      obtain ⟨i, j, d, e1, e2, e3⟩ := cellsDe_inv l (k - 5) u h'
      exact ⟨i + 1, j, d, by omega, by simpa using e2, e3⟩
theorem addr_off {b o j : Nat} : (⟨b, o, none⟩ : Addr).add j = ⟨b, o + j, none⟩ := by
  unfold Addr.add
  cases j <;> simp
/-- A slice of dependencies, as an append reads it. -/
theorem src_des {w : World} {v : Value} {l : List De} (h : DesS w v l) {ao : Option Addr} {n c : Nat} (hv : v = .slice ao n c) : ∀ (j : Nat) u, (cellsDe l)[j]? = some u → ∃ ad, ao = some ad ∧ w.cell? (ad.add j) = some u := by
  intro j u hj
  obtain ⟨ao', cp, e, hc⟩ := h
  rw [hv] at e
  injection e with e _ _
  subst e
  obtain ⟨i, k, d, rfl, h1, h2⟩ := cellsDe_inv l j u hj
  obtain ⟨b, off, e1, _, e3⟩ := hc i d h1
  exact ⟨_, e1, by rw [addr_off, ← Nat.add_assoc]; exact e3 k u (by simpa using h2)⟩
theorem own_des {w : World} {base : Nat} {e : TypeId} {v : Value} {l : List De} (h : w.ownsRow base e 5 v l.length (cellsDe l)) : DesS w v l := by
  obtain ⟨a, cp, rfl⟩ := own_form h
  refine ⟨a, cp, rfl, fun i d hi => ?_⟩
  have hlt := (List.getElem?_eq_some_iff.1 hi).1
  rcases h.2 with ⟨_, h0⟩ | ⟨g, cap, cur, e1, _⟩
  · omega
  · injection e1 with e1 e2 e3
    subst e1
    refine ⟨g, 0, rfl, (own_cell h (cellsDe_at l i d hi 0 _ rfl)).2, fun j u hj => ?_⟩
    have := (own_cell h (cellsDe_at l i d hi j u (by simpa using hj))).1
    rw [Nat.zero_add]
    exact this
theorem own_e5 (w : World) (B g : Nat) (e : TypeId) (hg : g = w.heap.size) (hB : B ≤ w.heap.size) : (w.alloc (.cells #[] e)).ownsRow B e 5 (.slice (some ⟨g, 0, none⟩) 0 0) 0 [] := by
  subst hg
  exact ⟨rfl, .inr ⟨_, 0, #[], rfl, hB, Box.made w e #[], Nat.le_refl _, by unfold maxLen; omega, rfl, rfl⟩⟩
theorem info_de10 : (Tryd.prog.info? 71).map (fun i => (i.zero, i.size, i.bytes)) = some (some (.agg #[.string ⟨#[]⟩, .int .u8 0, .int .i64 0, .string ⟨#[]⟩, .string ⟨#[]⟩]), 5, 64) := by kernel_rfl
theorem info_get10 {P : Program} {e : TypeId} {z : Value} {s b : Nat} (h : (P.info? e).map (fun i => (i.zero, i.size, i.bytes)) = some (some z, s, b)) : ∃ i, P.info? e = some i ∧ i.zero = some z ∧ i.size = s ∧ i.bytes = b := by
  cases hi : P.info? e with
  | none => rw [hi] at h; cases h
  | some i =>
    rw [hi] at h
    simp only [Option.map_some, Option.some.injEq, Prod.mk.injEq] at h
    exact ⟨i, rfl, h.1, h.2.1, h.2.2⟩
theorem held_two {wr w : World} {p q : Addr} {u v : Value} (k1 : wr.cell? p = some u) (l1 : p.block < wr.heap.size) (k2 : wr.cell? q = some v) (l2 : q.block < wr.heap.size) (h : Kept (fun _ => False) wr w) : w.cell? p = some u ∧ w.cell? q = some v ∧ Kept (fun _ => False) wr w :=
  ⟨(h.cell l1 (fun h => h)).trans k1, (h.cell l2 (fun h => h)).trans k2, h⟩
def smallDe (e : De) : Prop := e.nm.size ≤ 500 ∧ e.v.size ≤ 500 ∧ e.r.size ≤ 500
def smallRs (l : List R) : Prop := counts l ≤ 2000 ∧ l.length ≤ 100 ∧ smallL l
/-- No more than a statement goes over. -/
structure PkSmall (p : Pk) : Prop where
  pvl : p.pv.length ≤ 100
  obl : p.ob.length ≤ 100
  fil : p.fi.length ≤ 100
  nm : p.nm.size ≤ 1000
  vd : p.vd.size ≤ 1000
  v : p.v.size ≤ 1000
  r : p.r.size ≤ 1000
  pv : ∀ e ∈ p.pv, smallDe e
  ob : ∀ e ∈ p.ob, smallDe e
  fi : ∀ u ∈ p.fi, u.size ≤ 500
  rq : smallRs p.rq
  cf : smallRs p.cf
  rc : smallRs p.rc
  sp : smallRs p.sp
  sg : smallRs p.sg
  en : smallRs p.en
/-- What large answers. -/
def AnsLarge (p : Pk) (w : World) (e : Ending) (w' : World) : Prop := (∃ b, e = .returned (.bool b) ∧ (b = false → PkSmall p)) ∧ Kept (fun _ => False) w w'
theorem AnsLarge.yes {p : Pk} {w w' : World} {e : Ending} (he : e = .returned (.bool true)) (h : Kept (fun _ => False) w w') : AnsLarge p w e w' := ⟨⟨true, he, fun h => by cases h⟩, h⟩
theorem all_take {α : Type} {P : α → Prop} {l : List α} {i : Nat} {x : α} (h : ∀ y ∈ l.take i, P y) (hx : l[i]? = some x) (hp : P x) : ∀ y ∈ l.take (i + 1), P y := by
  intro y hy
  rw [List.take_add_one, hx, List.mem_append] at hy
  rcases hy with hy | hy
  · exact h y hy
  · have : y = x := by simpa using hy
    rw [this]; exact hp
end Go.Proofs.YtlpalepkomkngaaDoor
