/-
  Packages as values: a record of what one reads as. Nothing of the program is named here but its types. Copies of rich dependencies in memory: which hold whatever becomes of older blocks. Nothing of the program is named here but its types. The walks over the document's counts of layer 8: how many parts, how deep. The walk over the document's part (layer 8). The walks over the document's Whole, and the word of a Kind (layer 8). A slice appended to a row of the call's own, where the slice may be nil. Nothing of the program is named here but its types. The walks over the document's words, and Words (layer 8). The walk over the document's Copy (layer 8). The walk over the document's Copy (layer 9). The walk over the document's copies of a list of rich dependencies (layer 10). A region that draws its order, walked once, where its calls make memory but leave the old blocks alone. Nothing of the program is named here. The walk over what the laws of layer 10 ask of a list of rich dependencies first: of how many parts they are. The walk over what the laws of layer 10 ask first: whether a package is more than a statement goes over. Conditions: as each theorem states.
-/
import Derived.Test.YtpdoeapjdifmbaaGreatDoorK01
import Derived.Test.YtpdoeapjdifmbaaGreatDoorRows
import Derived.Handy
import Derived.Lib.Hide
import Derived.LoopN
import Derived.Deep.QuietTactic
import Derived.WalkKit
import Derived.Maps.AppendAt
import Derived.Deep.RegionLaw
import Derived.BigQuiet
import Derived.Deep.RegionHeld3
namespace Go.Proofs.YtpdoeapjdifmbaaGreatDoor
open Go.RowKit Ver Evr Span Rich

def fitsDe (e : De) : Prop := e.nm.size < 140737488355328 ∧ e.o < 256 ∧ e.v.size < 140737488355328 ∧ e.r.size < 140737488355328
/-- What a package reads as. -/
structure Pk where
  nm : ByteArray
  n : Int
  v : ByteArray
  r : ByteArray
  a : Nat
  vd : ByteArray
  pv : List De
  rq : List R
  cf : List R
  ob : List De
  rc : List R
  sp : List R
  sg : List R
  en : List R
  fi : List ByteArray
/-- A slice of rich dependencies that reads as these. -/
def RisS (w : World) (v : Value) (l : List R) : Prop := ∃ ao cp, v = .slice ao l.length cp ∧ ArgS w ao 0 l
theorem RisS.kept {w w' : World} {v : Value} {l : List R} (h : RisS w v l) (hk : Kept (fun _ => False) w w') : RisS w' v l := by
  obtain ⟨ao, cp, h1, h2⟩ := h
  exact ⟨ao, cp, h1, ArgS.kept hk ao 0 l h2⟩
theorem RisS.nil (w : World) : RisS w (.slice none 0 0) [] := ⟨none, 0, rfl, by rw [ArgS]; trivial⟩
theorem StrS.nil10 (w : World) : StrS w (.slice none 0 0) [] := ⟨none, 0, rfl, fun i e hi => by simp at hi⟩
/-- The slices of a package. -/
structure Sl where
  s4 : Value
  s5 : Value
  s6 : Value
  s7 : Value
  s8 : Value
  s9 : Value
  s10 : Value
  s11 : Value
  s12 : Value
abbrev pkA (p : Pk) (s : Sl) : Array Value := #[.string p.nm, .int .i64 p.n, .string p.v, .string p.r, .int .u8 (p.a : Int), .string p.vd, s.s4, s.s5, s.s6, s.s7, s.s8, s.s9, s.s10, s.s11, s.s12]
/-- What is nil has no room. -/
def NilOk (v : Value) : Prop := ∀ n c, v = .slice none n c → n = 0 ∧ c = 0
theorem NilOk.zero : NilOk (.slice none 0 0) := fun n c h => by injection h with _ h1 h2; exact ⟨h1.symm, h2.symm⟩
theorem NilOk.some (a : Addr) (n c : Nat) : NilOk (.slice (some a) n c) := fun _ _ h => by injection h with h _ _; cases h
/-- What lies in a package's slices. -/
structure PkIn (w : World) (p : Pk) (s : Sl) : Prop where
  pv : DesS w s.s4 p.pv
  rq : RisS w s.s5 p.rq
  cf : RisS w s.s6 p.cf
  ob : DesS w s.s7 p.ob
  rc : RisS w s.s8 p.rc
  sp : RisS w s.s9 p.sp
  sg : RisS w s.s10 p.sg
  en : RisS w s.s11 p.en
  fi : StrS w s.s12 p.fi
  k4 : NilOk s.s4
  k5 : NilOk s.s5
  k6 : NilOk s.s6
  k7 : NilOk s.s7
  k8 : NilOk s.s8
  k9 : NilOk s.s9
  k10 : NilOk s.s10
  k11 : NilOk s.s11
  k12 : NilOk s.s12
theorem PkIn.kept {w w' : World} {p : Pk} {s : Sl} (h : PkIn w p s) (hk : Kept (fun _ => False) w w') : PkIn w' p s :=
  ⟨h.pv.kept hk, h.rq.kept hk, h.cf.kept hk, h.ob.kept hk, h.rc.kept hk, h.sp.kept hk, h.sg.kept hk, h.en.kept hk, h.fi.kept hk (fun _ _ _ _ h => h), h.k4, h.k5, h.k6, h.k7, h.k8, h.k9, h.k10, h.k11, h.k12⟩
def fitsLs (l : List R) : Prop := l.length < 140737488355328 ∧ fitsL l
/-- Each text, and each row, takes less than 2^47. -/
structure PkFits (p : Pk) : Prop where
  nm : p.nm.size < 140737488355328
  v : p.v.size < 140737488355328
  r : p.r.size < 140737488355328
  a : p.a < 256
  vd : p.vd.size < 140737488355328
  pvl : p.pv.length < 140737488355328
  pv : ∀ e ∈ p.pv, fitsDe e
  obl : p.ob.length < 140737488355328
  ob : ∀ e ∈ p.ob, fitsDe e
  rq : fitsLs p.rq
  cf : fitsLs p.cf
  rc : fitsLs p.rc
  sp : fitsLs p.sp
  sg : fitsLs p.sg
  en : fitsLs p.en
  fil : p.fi.length < 140737488355328
  fi : ∀ u ∈ p.fi, u.size < 140737488355328
end Go.Proofs.YtpdoeapjdifmbaaGreatDoor

namespace Go.Proofs.YtpdoeapjdifmbaaGreatDoor
open Go.RowKit
namespace Rich

/-- Reads so, whatever becomes of the blocks below base. -/
def RichN (base : Nat) (w : World) (x : R) (v : Value) : Prop := ∀ W, Kept (fun b => b < base) w W → RichS W x v
theorem RichN.here {base : Nat} {w : World} {x : R} {v : Value} (h : RichN base w x v) : RichS w x v := h w (Kept.refl _ _)
abbrev Pc := R × Option Addr × Nat
abbrev arrP (p : Pc) : Array Value := richA p.1.kind p.1.dep (.slice p.2.1 p.1.args.length p.2.2)
abbrev valP (p : Pc) : Value := .agg (arrP p)
def cellsP : List Pc → List Value
  | [] => []
  | p :: l => (arrP p).toList ++ cellsP l
theorem cellsP_app : ∀ a b : List Pc, cellsP (a ++ b) = cellsP a ++ cellsP b
  | [], _ => rfl
  | p :: a, b => by simp [cellsP, cellsP_app a b]
theorem cellsP_at : ∀ (l : List Pc) (i : Nat) (p : Pc), l[i]? = some p → ∀ (j : Nat) u, (arrP p).toList[j]? = some u → (cellsP l)[i * 7 + j]? = some u
  | [], _, _, h, _, _, _ => by simp at h
  | e :: l, 0, p, h, j, u, hu => by
    injection h with h
    subst h
    have hj : j < (arrP e).toList.length := (List.getElem?_eq_some_iff.1 hu).1
    rw [cellsP, Nat.zero_mul, Nat.zero_add, List.getElem?_append_left hj]
    exact hu
  | e :: l, i + 1, p, h, j, u, hu => by
    have := cellsP_at l i p (by simpa using h) j u hu
    have e0 : (i + 1) * 7 + j = (arrP e).toList.length + (i * 7 + j) := by simp; omega
    rw [cellsP, e0, List.getElem?_append_right (by omega), Nat.add_sub_cancel_left]
    exact this
/-- A part that was copied: it holds whatever becomes of what lies below its world, and what came of the world since is of that sort. -/
def Done8 (B : Nat) (vt : Value) (wr : World) (p : Pc) : Prop := ∃ wj bj, B ≤ bj ∧ RichN bj wj p.1 (valP p) ∧ Kept (fun b => b < bj) wj wr ∧ ∀ g, vt.ownBlock = some g → g < bj ∨ wj.heap.size ≤ g
theorem Done8.step {B o : Nat} {vt vt' : Value} {wr w' : World} {p : Pc} (h : Done8 B vt wr p) (hk : Kept (fun b => vt.ownBlock = some b ∨ b = o) wr w') (ho : o < B) (hv : vt'.ownBlock = vt.ownBlock ∨ ∃ n, wr.heap.size ≤ n ∧ vt'.ownBlock = some n) : Done8 B vt' w' p := by
  obtain ⟨wj, bj, h1, h2, h3, h4⟩ := h
  refine ⟨wj, bj, h1, h2, h3.trans hk fun i hi hs => ?_, fun g hg => ?_⟩
  · rcases hs with hs | hs
    · rcases h4 i hs with h | h
      · exact h
      · omega
    · omega
  · rcases hv with hv | ⟨n, hn, hv⟩
    · exact h4 g (by rw [← hv]; exact hg)
    · rw [hv] at hg
      injection hg with hg
      have := h3.size
      omega
/-- A row of copied parts reads as the whole. -/
theorem rich_made {B w0 k : Nat} {d : Dep.D} {l : List R} {ps : List Pc} {vt : Value} {wr : World} {e : TypeId} (hB : w0 ≤ B) (hk : k < 256) (hd : d.op < 256) (hp : ps.map Prod.fst = l) (ho : wr.ownsRow B e 7 vt l.length (cellsP ps)) (hD : ∀ p ∈ ps, Done8 B vt wr p) :
    RichN w0 wr (.mk k d l) (richV k d vt) := by
  intro W hW
  have hl : ps.length = l.length := by rw [← hp]; simp
  have ho' := hW.owns ho (fun i hi h => by have := (ho.lt i hi).1; omega)
  rw [RichS]
  rcases ho'.2 with ⟨hv, hn⟩ | ⟨g, cap, cur, rfl, hg, hh, _⟩
  · have : l = [] := List.eq_nil_of_length_eq_zero hn
    subst this
    exact ⟨none, 0, by rw [hv]; rfl, hk, hd, by rw [ArgS]; trivial⟩
  · refine ⟨some ⟨g, 0, none⟩, cap, rfl, hk, hd, ArgS.of fun i x hx => ?_⟩
    rw [← hp, List.getElem?_map] at hx
    obtain ⟨p, h1, rfl⟩ := Option.map_eq_some_iff.1 hx
    obtain ⟨wj, bj, g1, g2, g3, _⟩ := hD p (List.mem_of_getElem? h1)
    have hc := cellsP_at ps i p h1
    refine ⟨g, 0, valP p, rfl, ?_, g2 W (g3.trans hW fun i _ h => by omega), fun j u hj => ?_⟩
    · have := Array.getElem?_eq_some_iff.1 hh
      exact this.1
    · have := (own_cell ho' (hc j u hj)).1
      rw [show 0 + (0 + i) * 7 + j = i * 7 + j by omega]
      exact this
end Rich
end Go.Proofs.YtpdoeapjdifmbaaGreatDoor

namespace Go.Proofs.YtpdoeapjdifmbaaGreatDoor
open Go.RowKit Rich

end Go.Proofs.YtpdoeapjdifmbaaGreatDoor

namespace Go.Proofs.YtpdoeapjdifmbaaGreatDoor
open Go.RowKit Rich

end Go.Proofs.YtpdoeapjdifmbaaGreatDoor

namespace Go.Proofs.YtpdoeapjdifmbaaGreatDoor
open Go.RowKit Rich

end Go.Proofs.YtpdoeapjdifmbaaGreatDoor

namespace Go.Proofs.YtpdoeapjdifmbaaGreatDoor
open Go.RowKit

section
variable {P : Program} {w : World}
/-- append of a row of the call's own and a slice that reads as news, nil where that is empty. -/
theorem run_append_src (base : Nat) (t ty e : TypeId) (i : TypeInfo) (z : Value) (size bytes : Nat) (ht : P.underlying t = some (.slice e)) (hi : P.info? e = some i) (hz : i.zero = some z)
    (hsize : i.size = size) (hby : i.bytes = bytes) (hzs : z.cells.size = size) (hsz : 0 < size)
    (v : Value) (n : Nat) (xs : List Value) (hown : w.ownsRow base e size v n xs)
    (ao : Option Addr) (m c : Nat) (news : List Value) (hnil : ao = none → m = 0 ∧ c = 0) (hl : news.length = m * size) (hnews : ∀ j u, news[j]? = some u → ∃ ad, ao = some ad ∧ w.cell? (ad.add j) = some u) (h1 : ∀ u ∈ news, u.oneCell' = true)
    (h63 : n + m ≤ maxLen) (hbytes : (n + m) * bytes ≤ 140737488355328) (hbase : base ≤ w.heap.size) :
    ∃ v' w', (Builtin.append_ #[t, t] ty #[v, .slice ao m c]).run P w = .ok v' w' ∧ w'.ownsRow base e size v' (n + m) (xs ++ news) ∧ w.grownBy w' v.ownBlock ∧ (v'.ownBlock = v.ownBlock ∨ v'.ownBlock = some w.heap.size) := by
  cases ao with
  | some ad =>
    obtain ⟨v', w', hr, h2, h3, _, h5⟩ := run_append_own_at (P := P) w base t ty e i z size bytes ht hi hz hsize hby hzs hsz v n xs hown ad m c news hl (fun j u hj => by
      obtain ⟨ad', e1, h⟩ := hnews j u hj
      injection e1 with e1
      subst e1
      exact h) h1 h63 hbytes hbase
    exact ⟨v', w', hr, h2, h3, h5⟩
  | none =>
    obtain ⟨rfl, rfl⟩ := hnil rfl
    have hn : news = [] := List.eq_nil_of_length_eq_zero (by simpa using hl)
    subst hn
    refine ⟨v, w, run_append_owned_none (P := P) (w := w) base t ty e i size ht hi v n xs hown, by simpa using hown, World.grownBy.refl _ _, .inl rfl⟩
end

theorem info_str : (Tryz.prog.info? 9).map (fun i => (i.zero, i.size, i.bytes)) = some (some (.string ⟨#[]⟩), 1, 16) := by kernel_rfl
theorem cellsS_one (a : List ByteArray) : ∀ u ∈ cellsS a, u.oneCell' = true := by
  intro u hu
  obtain ⟨_, _, rfl⟩ := List.mem_map.1 hu
  rfl
theorem wpList_append_src {P : Program} {w : World} {ops : Array Oper} {rest : List Oper} {o : Oper} {a : Act} {Q : Exit → Act → World → Prop} (hgd : o.guard = none) (s x : Operand) (t : TypeId)
    (ho : o.op = .call { callee := .builtin .append, args := #[s, x], argTypes := #[t, t] })
    (base : Nat) (e : TypeId) (i : TypeInfo) (z : Value) (size bytes : Nat) (ht : P.underlying t = some (.slice e)) (hi : P.info? e = some i) (hz : i.zero = some z)
    (hsize : i.size = size) (hby : i.bytes = bytes) (hzs : z.cells.size = size) (hsz : 0 < size)
    (v : Value) (n : Nat) (xs : List Value) (hs : a.eval s = v) (hown : w.ownsRow base e size v n xs)
    (ao : Option Addr) (m c : Nat) (news : List Value) (hx : a.eval x = .slice ao m c) (hnil : ao = none → m = 0 ∧ c = 0) (hl : news.length = m * size) (hnews : ∀ j u, news[j]? = some u → ∃ ad, ao = some ad ∧ w.cell? (ad.add j) = some u) (h1 : ∀ u ∈ news, u.oneCell' = true)
    (h63 : n + m ≤ maxLen) (hbytes : (n + m) * bytes ≤ 140737488355328) (hbase : base ≤ w.heap.size)
    (h : ∀ v' w', w'.ownsRow base e size v' (n + m) (xs ++ news) → w.grownBy w' v.ownBlock → (v'.ownBlock = v.ownBlock ∨ v'.ownBlock = some w.heap.size) → wpList P ops Q rest (a.put o.dst v') w') :
    wpList P ops Q (o :: rest) a w := by
  refine wpList_plain hgd fun K hK => ?_
  obtain ⟨v', w', hr, h2, h3, h4⟩ := run_append_src (P := P) (w := w) base t o.type e i z size bytes ht hi hz hsize hby hzs hsz v n xs hown ao m c news hnil hl hnews h1 h63 hbytes hbase
  unfold Oper.wp execOp
  simp only [ho, resolve, invoke, builtin, Sem.run_bind, Sem.run_pure, Result.andThen_ok, List.map_toArray, List.map_cons, List.map_nil, hs, hx, hr]
  exact hK _ _ (h v' w' h2 h3 h4)

end Go.Proofs.YtpdoeapjdifmbaaGreatDoor

namespace Go.Proofs.YtpdoeapjdifmbaaGreatDoor
open Go.RowKit Rich
open Dep (wordsD)

theorem box_grown8 {w w1 : World} {g base n size : Nat} {e t : TypeId} {v : Value} {xs : List Value} {cs : Array Value} (hb : Box w g t cs) (ho : w.ownsRow base e size v n xs) (hg : w.grownBy w1 v.ownBlock) (hlt : g < base) : Box w1 g t cs :=
  (hg.block g hb.lt (fun e => by have := (ho.lt g e.symm).1; omega)).trans hb
mutual
theorem wordsR_len : ∀ x : R, Rich.part x = true → (wordsR x).length + 1 ≤ 4 * count x
  | .mk k d l, h => by
    rw [count]
    by_cases hk : k = 1
    · subst hk
      rw [wordsR, if_pos rfl]
      by_cases h0 : d.op = 0
      · rw [wordsD_any h0]; simp; omega
      · rw [wordsD_op h0]; simp; omega
    · rw [Rich.part, if_neg hk, Bool.and_eq_true, Bool.and_eq_true] at h
      have := wordsL_len l h.1.2 k 0
      rw [wordsR, if_neg hk]
      simp only [List.length_cons, List.length_append, List.length_nil]
      omega
theorem wordsL_len : ∀ l : List R, allP l = true → ∀ k i, (wordsL k i l).length ≤ 4 * counts l
  | [], _, k, i => by rw [wordsL, counts]; simp
  | x :: l, h, k, i => by
    rw [allP, Bool.and_eq_true] at h
    have h1 := wordsR_len x h.1
    have h2 := wordsL_len l h.2 k (i + 1)
    have h3 : (sepL k i).length ≤ 1 := by unfold sepL; split <;> simp
    rw [wordsL, counts]
    simp only [List.length_append]
    omega
end
end Go.Proofs.YtpdoeapjdifmbaaGreatDoor

namespace Go.Proofs.YtpdoeapjdifmbaaGreatDoor
open Go.RowKit Rich

theorem info_rich8 : (Tryz.prog.info? 62).map (fun i => (i.zero, i.size, i.bytes)) = some (some (.agg #[.int .u8 0, .string ⟨#[]⟩, .int .u8 0, .int .i64 0, .string ⟨#[]⟩, .string ⟨#[]⟩, .slice none 0 0]), 7, 96) := by kernel_rfl
theorem wp_append_own8 {P : Program} {w : World} {o : Oper} {a : Act} {K : Act → World → Prop} {Q : Exit → Act → World → Prop} (s x : Operand) (t : TypeId)
    (ho : o.op = .call { callee := .builtin .append, args := #[s, x], argTypes := #[t, t] })
    (base : Nat) (e : TypeId) (i : TypeInfo) (z : Value) (size bytes : Nat) (ht : P.underlying t = some (.slice e)) (hi : P.info? e = some i) (hz : i.zero = some z)
    (hsize : i.size = size) (hby : i.bytes = bytes) (hzs : z.cells.size = size) (hsz : 0 < size)
    (v : Value) (n : Nat) (xs : List Value) (hs : a.eval s = v) (hown : w.ownsRow base e size v n xs)
    (ad : Addr) (m c : Nat) (news : List Value) (hx : a.eval x = .slice (some ad) m c) (hl : news.length = m * size) (hnews : ∀ j u, news[j]? = some u → w.cell? (ad.add j) = some u) (h1 : ∀ u ∈ news, u.oneCell' = true)
    (h63 : n + m ≤ maxLen) (hbytes : (n + m) * bytes ≤ 140737488355328) (hbase : base ≤ w.heap.size)
    (h : ∀ v' w', w'.ownsRow base e size v' (n + m) (xs ++ news) → w.grownBy w' v.ownBlock → (v'.ownBlock = v.ownBlock ∨ v'.ownBlock = some w.heap.size) → K (a.put o.dst v') w') : o.wp P a w K Q := by
  obtain ⟨v', w', hr, h2, h3, _, h5⟩ := run_append_own_at (P := P) w base t o.type e i z size bytes ht hi hz hsize hby hzs hsz v n xs hown ad m c news hl hnews h1 h63 hbytes hbase
  unfold Oper.wp execOp
  simp only [ho, resolve, invoke, builtin, Sem.run_bind, Sem.run_pure, Result.andThen_ok, List.map_toArray, List.map_cons, List.map_nil, hs, hx, hr]
  exact h v' w' h2 h3 h5
theorem one_rich8 (W : World) (t : TypeId) (cs : Array Value) : ∀ (j : Nat) u, cs.toList[j]? = some u → (W.alloc (.cells cs t)).cell? ((⟨W.heap.size, 0, none⟩ : Addr).add j) = some u := by
  intro j u hj
  have h := (Box.made W t cs).cell j
  rw [show ((⟨W.heap.size, 0, none⟩ : Addr).add j) = ⟨W.heap.size, j, none⟩ by simp [Addr.add]; try omega, h]
  simpa using hj
theorem copy_result {fn : Func} {p : Tmp} (h : fn.results = #[.cell p 62]) (tmps : Array Value) (W : World) (g : Nat) (cs : Array Value) (hp : tmps.getD p undef = .pointer (some ⟨g, 0, none⟩)) (hB : Box W g 62 cs) (hs : cs.size = 7) :
    (results fn tmps).run Tryz.prog W = .ok (.agg cs) W :=
  results_cell_row h tmps W g 62 cs (0, 0) _ hp hB Tryz.underlying62 rfl (by rw [hs]; kernel_rfl)
end Go.Proofs.YtpdoeapjdifmbaaGreatDoor

namespace Go.Proofs.YtpdoeapjdifmbaaGreatDoor
open Go.RowKit Rich

end Go.Proofs.YtpdoeapjdifmbaaGreatDoor

namespace Go.Proofs.YtpdoeapjdifmbaaGreatDoor
open Go.RowKit Ver Evr Span Dep Rich

/-- Reads so, whatever becomes of the blocks below base. -/
def RisN (base : Nat) (w : World) (v : Value) (l : List R) : Prop := (∀ W, Kept (fun b => b < base) w W → RisS W v l) ∧ ∃ (b0 : Nat) (ps : List Pc), base ≤ b0 ∧ ps.map Prod.fst = l ∧ w.ownsRow b0 62 7 v l.length (Rich.cellsP ps)
theorem RisN.here {base : Nat} {w : World} {v : Value} {l : List R} (h : RisN base w v l) : RisS w v l := h.1 w (Kept.refl _ _)
theorem RisN.kept {base : Nat} {w w' : World} {v : Value} {l : List R} (h : RisN base w v l) (hk : Kept (fun b => b < base) w w') : RisN base w' v l := by
  obtain ⟨h1, b0, ps, hb, hm, ho⟩ := h
  exact ⟨fun W hW => h1 W (hk.trans hW (fun _ _ h => h)), b0, ps, hb, hm, hk.owns ho (fun i hi hs => by have := (ho.lt i hi).1; omega)⟩
theorem RisN.less {a b : Nat} {w : World} {v : Value} {l : List R} (h : RisN a w v l) (hb : b ≤ a) : RisN b w v l := by
  obtain ⟨h1, b0, ps, hb0, hm, ho⟩ := h
  exact ⟨fun W hW => h1 W (hW.weaker (fun _ _ hi => Nat.lt_of_lt_of_le hi hb)), b0, ps, Nat.le_trans hb hb0, hm, ho⟩
/-- It has room for what it holds. -/
def CapOk (v : Value) : Prop := ∀ a n c, v = .slice a n c → n ≤ c
theorem capOk_own {w : World} {base size n : Nat} {e : TypeId} {v : Value} {xs : List Value} (h : w.ownsRow base e size v n xs) : CapOk v := fun a k c hv => by
  rcases h.2 with ⟨h1, h2⟩ | ⟨g, cap, cur, e1, _, _, h3, _⟩
  · rw [h1] at hv
    injection hv with _ h4 h5
    omega
  · rw [e1] at hv
    injection hv with _ h4 h5
    omega
theorem one_rich10 (k : Nat) (d : D) (sl : Value) : ∀ u ∈ (richA k d sl).toList, (∃ ao n cp, sl = .slice ao n cp) → u.oneCell' = true := by
  intro u hu ⟨ao, n, cp, hs⟩
  subst hs
  simp at hu
  rcases hu with h | h | h | h | h | h | h <;> (rw [h]; rfl)
end Go.Proofs.YtpdoeapjdifmbaaGreatDoor

namespace Go.Proofs.YtpdoeapjdifmbaaGreatDoor
open Go.RowKit

/-- The worlds in which all old blocks lie as they lay, told by a map onto them. -/
theorem class_of (w : World) : ∃ (T : Type) (F : T → World) (t0 : T), F t0 = w.drew ∧ (∀ t, Kept (fun _ => False) w (F t)) ∧ ∀ t w', Kept (fun _ => False) (F t) w' → ∃ t', w' = F t' :=
  ⟨{ w' // Kept (fun _ => False) w w' }, Subtype.val, ⟨w.drew, (Kept.refl _ w).drew⟩, rfl, fun t => t.2, fun t w' h => ⟨⟨w', t.2.trans h (fun _ _ h => h)⟩, rfl⟩⟩
theorem wp_region_class {P : Program} {id : Nat} {Q : Exit → Act → World → Prop} {a : Act} {w : World} {l : List Oper} {T : Type} (F : T → World) (t0 : T) (h0 : F t0 = w.drew) (hm : P.follows .mixedOrders = true) (hB : Region.lexB .any l.toArray = true)
    (h : wpQuiet P l.toArray (fun w' => ∃ n, w' = F n) (fun a' => ∀ w', (∃ n, w' = F n) → Q .normal a' w') l a) : (Code.region id l.toArray true).wp P Q a w :=
  wp_region_quiet (C := fun w' => ∃ n, w' = F n) hm hB ⟨t0, h0.symm⟩ (by simpa using h)
theorem class_call {P : Program} {f : FuncId} {args : Array Value} {T : Type} {F : T → World} {t : T} {v : Value} (hs : ∀ t w', Kept (fun _ => False) (F t) w' → ∃ t', w' = F t')
    (h : Calls P f args (F t) fun e w' => e = .returned v ∧ Kept (fun _ => False) (F t) w') : Calls P f args (F t) fun e w' => e = .returned v ∧ ∃ m, w' = F m :=
  h.mono fun _ _ ⟨he, hk⟩ => ⟨he, hs t _ hk⟩
end Go.Proofs.YtpdoeapjdifmbaaGreatDoor

namespace Go.Proofs.YtpdoeapjdifmbaaGreatDoor
open Go.RowKit Ver Evr Span Dep Rich

end Go.Proofs.YtpdoeapjdifmbaaGreatDoor

namespace Go.Proofs.YtpdoeapjdifmbaaGreatDoor
open Go.RowKit Ver Evr Span Dep Rich

def cellsDe (l : List De) : List Value := l.flatMap fun e => (deA e).toList
theorem cellsDe_app (a b : List De) : cellsDe (a ++ b) = cellsDe a ++ cellsDe b := List.flatMap_append
theorem cellsDe_one (l : List De) : ∀ u ∈ cellsDe l, u.oneCell' = true := by
  intro u hu
  obtain ⟨d, _, hu⟩ := List.mem_flatMap.1 hu
  simp only [List.mem_cons, List.not_mem_nil, or_false] at hu
  rcases hu with rfl | rfl | rfl | rfl | rfl <;> rfl
theorem cellsDe_at : ∀ (l : List De) (i : Nat) (d : De), l[i]? = some d → ∀ (j : Nat) (u : Value), (deA d).toList[j]? = some u → (cellsDe l)[i * 5 + j]? = some u
  | [], i, d, h, _, _, _ => by simp at h
  | x :: l, 0, d, h, j, u, hj => by
    have : x = d := by simpa using h
    subst this
    show ((deA x).toList ++ cellsDe l)[0 * 5 + j]? = some u
    rw [Nat.zero_mul, Nat.zero_add, List.getElem?_append_left (List.getElem?_eq_some_iff.1 hj).1, hj]
  | x :: l, i + 1, d, h, j, u, hj => by
    have ih := cellsDe_at l i d (by simpa using h) j u hj
    show ((deA x).toList ++ cellsDe l)[(i + 1) * 5 + j]? = some u
    rw [List.getElem?_append_right (by show 5 ≤ _; omega), ← ih]
    show (cellsDe l)[(i + 1) * 5 + j - 5]? = _
    rw [show (i + 1) * 5 + j - 5 = i * 5 + j by omega]
theorem own_des {w : World} {base : Nat} {e : TypeId} {v : Value} {l : List De} (h : w.ownsRow base e 5 v l.length (cellsDe l)) : DesS w v l := by
  obtain ⟨a, cp, rfl⟩ := own_form h
  refine ⟨a, cp, rfl, fun i d hi => ?_⟩
  have hlt := (List.getElem?_eq_some_iff.1 hi).1
  rcases h.2 with ⟨_, h0⟩ | ⟨g, cap, cur, e1, _⟩
  · omega
  · injection e1 with e1 e2 e3
    subst e1
    refine ⟨g, 0, rfl, (own_cell h (cellsDe_at l i d hi 0 _ rfl)).2, fun j u hj => ?_⟩
    have := (own_cell h (cellsDe_at l i d hi j u (by simpa using hj))).1
    rw [Nat.zero_add]
    exact this
theorem info_de10 : (Tryz.prog.info? 60).map (fun i => (i.zero, i.size, i.bytes)) = some (some (.agg #[.string ⟨#[]⟩, .int .u8 0, .int .i64 0, .string ⟨#[]⟩, .string ⟨#[]⟩]), 5, 64) := by kernel_rfl
theorem info_get10 {P : Program} {e : TypeId} {z : Value} {s b : Nat} (h : (P.info? e).map (fun i => (i.zero, i.size, i.bytes)) = some (some z, s, b)) : ∃ i, P.info? e = some i ∧ i.zero = some z ∧ i.size = s ∧ i.bytes = b := by
  cases hi : P.info? e with
  | none => rw [hi] at h; cases h
  | some i =>
    rw [hi] at h
    simp only [Option.map_some, Option.some.injEq, Prod.mk.injEq] at h
    exact ⟨i, rfl, h.1, h.2.1, h.2.2⟩
def smallDe (e : De) : Prop := e.nm.size ≤ 500 ∧ e.v.size ≤ 500 ∧ e.r.size ≤ 500
def smallRs (l : List R) : Prop := counts l ≤ 2000 ∧ l.length ≤ 100 ∧ smallL l
/-- No more than a statement goes over. -/
structure PkSmall (p : Pk) : Prop where
  pvl : p.pv.length ≤ 100
  obl : p.ob.length ≤ 100
  fil : p.fi.length ≤ 100
  nm : p.nm.size ≤ 1000
  vd : p.vd.size ≤ 1000
  v : p.v.size ≤ 1000
  r : p.r.size ≤ 1000
  pv : ∀ e ∈ p.pv, smallDe e
  ob : ∀ e ∈ p.ob, smallDe e
  fi : ∀ u ∈ p.fi, u.size ≤ 500
  rq : smallRs p.rq
  cf : smallRs p.cf
  rc : smallRs p.rc
  sp : smallRs p.sp
  sg : smallRs p.sg
  en : smallRs p.en
end Go.Proofs.YtpdoeapjdifmbaaGreatDoor
