/-
  What the laws of layer 8 ask of the program's rich, and plain facts beside it. Copies of rich dependencies in memory: which hold whatever becomes of older blocks. Nothing of the program is named here but its types. The walk over the document's Copy (layer 8). The walk over a helper of the laws of layer 8: how many parts. The walks over the program's own text of layer 8: its table, the word ahead of an Arg, the Kind of a word, how many Args there may be. Conditions: the table lies as the program's text lays it. Rich dependencies (chapter 8): what is whole, gone over part by part with a count. Nothing of the program is named here. Conditions: as each theorem states.
-/
import Derived.Test.YtlagnebgoclaeaaGreatDoorK04
import Derived.Test.YtlagnebgoclaeaaGreatDoorK08
import Derived.Test.YtlagnebgoclaeaaGreatDoorK05
import Derived.Deep.RegionLaw
import Derived.Test.YtlagnebgoclaeaaGreatDoorRows
import Derived.Handy
import Derived.Lib.Hide
import Derived.LoopN
import Derived.Deep.QuietTactic
import Derived.ProofKit
namespace Go.Proofs.YtlagnebgoclaeaaGreatDoor
open Go.RowKit Rich

/-- What Parse answers: what was read (or nothing), the place, the number of the error. -/
def ansR (s : List UInt8) : R × Nat × Int := match parseF s with
  | .ok x => (x, 0, 0)
  | .error y => (.mk 0 zD [], y.1, y.2)
def WholeK8 (w0 : World) : Prop := ∀ (x : R) (v : Value) (W : World), RichS W x v → smallX x → count x ≤ 2000 → Kept (fun _ => False) w0 W →
  Calls Tryz.prog 15 #[v] W fun e w' => e = .returned (.bool (whole x)) ∧ Kept (fun _ => False) W w'
def WordsK8 (w0 : World) : Prop := ∀ (x : R) (v : Value) (W : World), RichS W x v → smallX x → count x ≤ 2000 → Kept (fun _ => False) w0 W →
  Calls Tryz.prog 10 #[v] W fun e w' => (∃ va, e = .returned (.tuple #[va, .int .i64 (if whole x = true then 0 else 4)]) ∧ StrS w' va (bytesV (if whole x = true then wordsR x else []))) ∧ Kept (fun _ => False) W w'
def ShowK8 (w0 : World) : Prop := ∀ (x : R) (v : Value) (W : World), RichS W x v → smallX x → count x ≤ 2000 → Kept (fun _ => False) w0 W →
  Calls Tryz.prog 12 #[v] W fun e w' => e = .returned (.tuple #[.string ⟨(showN x).1.toArray⟩, .int .i64 (showN x).2]) ∧ Kept (fun _ => False) W w'
def ParseK8 (w0 : World) : Prop := ∀ (s : ByteArray) (W : World), s.size ≤ 1000000 → Kept (fun _ => False) w0 W →
  Calls Tryz.prog 18 #[.string s] W fun e w' => (∃ v, e = .returned (.tuple #[v, .int .i64 ((ansR s.data.toList).2.1 : Int), .int .i64 (ansR s.data.toList).2.2]) ∧ RichS w' (ansR s.data.toList).1 v) ∧ Kept (fun _ => False) W w'
/-- The examples hold, in worlds that keep what w0 has. -/
def AwakeK8 (w0 : World) : Prop := ∀ W, Kept (fun _ => False) w0 W → Calls Tryz.prog 8 #[] W fun e w' => e = .returned (.bool true) ∧ Kept (fun _ => False) W w'
theorem name_sizes {d : Dep.D} (h : Dep.mayD d = true) : d.name.length ≤ 64 ∧ d.evr.ver.length ≤ 64 ∧ d.evr.rel.length ≤ 64 := by
  have h1 := (Dep.name_parts (Rich.may_name h)).2.1
  by_cases h0 : d.op = 0
  · obtain ⟨n, o, e⟩ := d
    simp only at h0
    subst h0
    rw [Dep.may_any, Bool.and_eq_true] at h
    have h2 := Dep.noE_iff.1 h.2
    simp only at h1 ⊢
    rw [h2]
    exact ⟨h1, by simp [Dep.zeroD], by simp [Dep.zeroD]⟩
  · obtain ⟨_, h2⟩ := Rich.may_ops h h0
    obtain ⟨_, _, h3, h4⟩ := Evr.may_parts h2
    refine ⟨h1, (Evr.word_ok h3).2.2, ?_⟩
    rcases h4 with h4 | h4
    · rw [h4]; simp
    · exact (Evr.word_ok h4).2.2
mutual
theorem part_small : ∀ x : R, Rich.part x = true → count x ≤ 100 → smallX x ∧ fitsX x
  | .mk k d l, h, hc => by
    rw [count] at hc
    have hl := counts_len l
    rw [smallX, fitsX]
    by_cases hk : k = 1
    · subst hk
      obtain ⟨h1, rfl⟩ := part_atom.1 h
      obtain ⟨s1, s2, s3⟩ := name_sizes h1
      exact ⟨⟨by omega, by omega, by simp, by rw [smallL]; trivial⟩, by omega, by omega, by omega, by simp, by rw [fitsL]; trivial⟩
    · obtain ⟨_, h2, rfl⟩ := (part_other hk).1 h
      obtain ⟨g1, g2⟩ := allP_small l h2 (by omega)
      exact ⟨⟨by simp [zD, Dep.zeroD], by simp [zD, Dep.zeroD], by omega, g1⟩, by simp [zD], by simp [zD, Dep.zeroD], by simp [zD, Dep.zeroD], by omega, g2⟩
theorem allP_small : ∀ l : List R, allP l = true → counts l ≤ 100 → smallL l ∧ fitsL l
  | [], _, _ => by rw [smallL, fitsL]; exact ⟨trivial, trivial⟩
  | x :: l, h, hc => by
    rw [counts] at hc
    obtain ⟨h1, h2⟩ := allP_cons.1 h
    obtain ⟨g1, g2⟩ := part_small x h1 (by omega)
    obtain ⟨g3, g4⟩ := allP_small l h2 (by omega)
    rw [smallL, fitsL]
    exact ⟨⟨g1, g3⟩, g2, g4⟩
end
theorem ans_ok {s : List UInt8} {x : R} (h : parseF s = .ok x) : ansR s = (x, 0, 0) := by unfold ansR; rw [h]
theorem ans_err {s : List UInt8} {y : Nat × Int} (h : parseF s = .error y) : ansR s = (.mk 0 zD [], y.1, y.2) := by unfold ansR; rw [h]
theorem ans_fits (s : List UInt8) : fitsX (ansR s).1 ∧ smallX (ansR s).1 ∧ count (ansR s).1 ≤ 24 := by
  cases h : parseF s with
  | ok x =>
    rw [ans_ok h]
    obtain ⟨h1, h2, h3⟩ := whole_iff.1 (parse_ok8 h).1
    obtain ⟨g1, g2⟩ := part_small x h1 (by omega)
    exact ⟨g2, g1, h2⟩
  | error y =>
    rw [ans_err h]
    refine ⟨?_, ?_, ?_⟩
    · show fitsX (.mk 0 zD [])
      rw [fitsX, fitsL]
      exact ⟨by simp [zD], by simp [zD, Dep.zeroD], by simp [zD, Dep.zeroD], by simp, trivial⟩
    · show smallX (.mk 0 zD [])
      rw [smallX, smallL]
      exact ⟨by simp [zD, Dep.zeroD], by simp [zD, Dep.zeroD], by simp, trivial⟩
    · show count (.mk 0 zD []) ≤ 24
      rw [count, counts]
      omega
/-- What large lets by. -/
theorem large_no {x : R} (h : (muchX x 0).2 = false) : smallX x ∧ count x ≤ 2000 := by
  obtain ⟨h1, h2⟩ := much_le x 0
  obtain ⟨g1, g2⟩ := h2 h
  exact ⟨g2, by omega⟩
theorem show_text {x : R} : ∀ t : ByteArray, ((⟨(showN x).1.toArray⟩ : ByteArray) = t ↔ (showN x).1 = t.data.toList) := by
  intro t
  constructor
  · intro h; rw [← h]
  · intro h; rw [h]
end Go.Proofs.YtlagnebgoclaeaaGreatDoor

namespace Go.Proofs.YtlagnebgoclaeaaGreatDoor
open Go.RowKit
namespace Rich

/-- Reads so, whatever becomes of the blocks below base. -/
def RichN (base : Nat) (w : World) (x : R) (v : Value) : Prop := ∀ W, Kept (fun b => b < base) w W → RichS W x v
theorem RichN.here {base : Nat} {w : World} {x : R} {v : Value} (h : RichN base w x v) : RichS w x v := h w (Kept.refl _ _)
abbrev Pc := R × Option Addr × Nat
abbrev arrP (p : Pc) : Array Value := richA p.1.kind p.1.dep (.slice p.2.1 p.1.args.length p.2.2)
abbrev valP (p : Pc) : Value := .agg (arrP p)
def cellsP : List Pc → List Value
  | [] => []
  | p :: l => (arrP p).toList ++ cellsP l
theorem cellsP_app : ∀ a b : List Pc, cellsP (a ++ b) = cellsP a ++ cellsP b
  | [], _ => rfl
  | p :: a, b => by simp [cellsP, cellsP_app a b]
theorem cellsP_len : ∀ a : List Pc, (cellsP a).length = a.length * 7
  | [] => rfl
  | p :: a => by simp [cellsP, cellsP_len a]; omega
theorem cellsP_one : ∀ a : List Pc, ∀ u ∈ cellsP a, u.oneCell' = true
  | [], u, h => by simp [cellsP] at h
  | p :: a, u, h => by
    simp only [cellsP, List.mem_append] at h
    rcases h with h | h
    · simp at h
      rcases h with h | h | h | h | h | h | h <;> (rw [h]; rfl)
    · exact cellsP_one a u h
theorem cellsP_at : ∀ (l : List Pc) (i : Nat) (p : Pc), l[i]? = some p → ∀ (j : Nat) u, (arrP p).toList[j]? = some u → (cellsP l)[i * 7 + j]? = some u
  | [], _, _, h, _, _, _ => by simp at h
  | e :: l, 0, p, h, j, u, hu => by
    injection h with h
    subst h
    have hj : j < (arrP e).toList.length := (List.getElem?_eq_some_iff.1 hu).1
    rw [cellsP, Nat.zero_mul, Nat.zero_add, List.getElem?_append_left hj]
    exact hu
  | e :: l, i + 1, p, h, j, u, hu => by
    have := cellsP_at l i p (by simpa using h) j u hu
    have e0 : (i + 1) * 7 + j = (arrP e).toList.length + (i * 7 + j) := by simp; omega
    rw [cellsP, e0, List.getElem?_append_right (by omega), Nat.add_sub_cancel_left]
    exact this
/-- A part that was copied: it holds whatever becomes of what lies below its world, and what came of the world since is of that sort. -/
def Done8 (B : Nat) (vt : Value) (wr : World) (p : Pc) : Prop := ∃ wj bj, B ≤ bj ∧ RichN bj wj p.1 (valP p) ∧ Kept (fun b => b < bj) wj wr ∧ ∀ g, vt.ownBlock = some g → g < bj ∨ wj.heap.size ≤ g
theorem Done8.step {B o : Nat} {vt vt' : Value} {wr w' : World} {p : Pc} (h : Done8 B vt wr p) (hk : Kept (fun b => vt.ownBlock = some b ∨ b = o) wr w') (ho : o < B) (hv : vt'.ownBlock = vt.ownBlock ∨ ∃ n, wr.heap.size ≤ n ∧ vt'.ownBlock = some n) : Done8 B vt' w' p := by
  obtain ⟨wj, bj, h1, h2, h3, h4⟩ := h
  refine ⟨wj, bj, h1, h2, h3.trans hk fun i hi hs => ?_, fun g hg => ?_⟩
  · rcases hs with hs | hs
    · rcases h4 i hs with h | h
      · exact h
      · omega
    · omega
  · rcases hv with hv | ⟨n, hn, hv⟩
    · exact h4 g (by rw [← hv]; exact hg)
    · rw [hv] at hg
      injection hg with hg
      have := h3.size
      omega
/-- A row of copied parts reads as the whole. -/
theorem rich_made {B w0 k : Nat} {d : Dep.D} {l : List R} {ps : List Pc} {vt : Value} {wr : World} {e : TypeId} (hB : w0 ≤ B) (hk : k < 256) (hd : d.op < 256) (hp : ps.map Prod.fst = l) (ho : wr.ownsRow B e 7 vt l.length (cellsP ps)) (hD : ∀ p ∈ ps, Done8 B vt wr p) :
    RichN w0 wr (.mk k d l) (richV k d vt) := by
  intro W hW
  have hl : ps.length = l.length := by rw [← hp]; simp
  have ho' := hW.owns ho (fun i hi h => by have := (ho.lt i hi).1; omega)
  rw [RichS]
  rcases ho'.2 with ⟨hv, hn⟩ | ⟨g, cap, cur, rfl, hg, hh, _⟩
  · have : l = [] := List.eq_nil_of_length_eq_zero hn
    subst this
    exact ⟨none, 0, by rw [hv]; rfl, hk, hd, by rw [ArgS]; trivial⟩
  · refine ⟨some ⟨g, 0, none⟩, cap, rfl, hk, hd, ArgS.of fun i x hx => ?_⟩
    rw [← hp, List.getElem?_map] at hx
    obtain ⟨p, h1, rfl⟩ := Option.map_eq_some_iff.1 hx
    obtain ⟨wj, bj, g1, g2, g3, _⟩ := hD p (List.mem_of_getElem? h1)
    have hc := cellsP_at ps i p h1
    refine ⟨g, 0, valP p, rfl, ?_, g2 W (g3.trans hW fun i _ h => by omega), fun j u hj => ?_⟩
    · have := Array.getElem?_eq_some_iff.1 hh
      exact this.1
    · have := (own_cell ho' (hc j u hj)).1
      rw [show 0 + (0 + i) * 7 + j = i * 7 + j by omega]
      exact this
end Rich
end Go.Proofs.YtlagnebgoclaeaaGreatDoor

namespace Go.Proofs.YtlagnebgoclaeaaGreatDoor
open Go.RowKit Rich

theorem info_rich8 : (Tryz.prog.info? 28).map (fun i => (i.zero, i.size, i.bytes)) = some (some (.agg #[.int .u8 0, .string ⟨#[]⟩, .int .u8 0, .int .i64 0, .string ⟨#[]⟩, .string ⟨#[]⟩, .slice none 0 0]), 7, 96) := by kernel_rfl
theorem wp_append_own8 {P : Program} {w : World} {o : Oper} {a : Act} {K : Act → World → Prop} {Q : Exit → Act → World → Prop} (s x : Operand) (t : TypeId)
    (ho : o.op = .call { callee := .builtin .append, args := #[s, x], argTypes := #[t, t] })
    (base : Nat) (e : TypeId) (i : TypeInfo) (z : Value) (size bytes : Nat) (ht : P.underlying t = some (.slice e)) (hi : P.info? e = some i) (hz : i.zero = some z)
    (hsize : i.size = size) (hby : i.bytes = bytes) (hzs : z.cells.size = size) (hsz : 0 < size)
    (v : Value) (n : Nat) (xs : List Value) (hs : a.eval s = v) (hown : w.ownsRow base e size v n xs)
    (ad : Addr) (m c : Nat) (news : List Value) (hx : a.eval x = .slice (some ad) m c) (hl : news.length = m * size) (hnews : ∀ j u, news[j]? = some u → w.cell? (ad.add j) = some u) (h1 : ∀ u ∈ news, u.oneCell' = true)
    (h63 : n + m ≤ maxLen) (hbytes : (n + m) * bytes ≤ 140737488355328) (hbase : base ≤ w.heap.size)
    (h : ∀ v' w', w'.ownsRow base e size v' (n + m) (xs ++ news) → w.grownBy w' v.ownBlock → (v'.ownBlock = v.ownBlock ∨ v'.ownBlock = some w.heap.size) → K (a.put o.dst v') w') : o.wp P a w K Q := by
  obtain ⟨v', w', hr, h2, h3, _, h5⟩ := run_append_own_at (P := P) w base t o.type e i z size bytes ht hi hz hsize hby hzs hsz v n xs hown ad m c news hl hnews h1 h63 hbytes hbase
  unfold Oper.wp execOp
  simp only [ho, resolve, invoke, builtin, Sem.run_bind, Sem.run_pure, Result.andThen_ok, List.map_toArray, List.map_cons, List.map_nil, hs, hx, hr]
  exact h v' w' h2 h3 h5
theorem one_rich8 (W : World) (t : TypeId) (cs : Array Value) : ∀ (j : Nat) u, cs.toList[j]? = some u → (W.alloc (.cells cs t)).cell? ((⟨W.heap.size, 0, none⟩ : Addr).add j) = some u := by
  intro j u hj
  have h := (Box.made W t cs).cell j
  rw [show ((⟨W.heap.size, 0, none⟩ : Addr).add j) = ⟨W.heap.size, j, none⟩ by simp [Addr.add]; try omega, h]
  simpa using hj
/-- What a round leaves. -/
theorem copy_round8 {w wr w5 w9 : World} {e : TypeId} {k i : Nat} {d : Dep.D} {vt v' : Value} {cs zs : Array Value} {ps : List Pc} {p : Pc} {o : Obj}
    (HR : wr.ownsRow (w.heap.size + 3) e 7 vt i (cellsP ps)) (HBr : Box wr w.heap.size e cs) (HBz : Box wr (w.heap.size + 1) e zs) (HBo : Box wr (w.heap.size + 1 + 1) e (richA k d vt)) (HK : Kept (fun _ => False) w wr)
    (HD : ∀ q ∈ ps, Done8 (w.heap.size + 3) vt wr q) (hk5 : Kept (fun _ => False) wr.drew w5) (hv5 : RichN wr.drew.heap.size w5 p.1 (valP p))
    (hown : w9.ownsRow (w.heap.size + 3) e 7 v' (i + 1) (cellsP ps ++ (arrP p).toList)) (hg : (w5.alloc o).grownBy w9 vt.ownBlock) (hb : v'.ownBlock = vt.ownBlock ∨ v'.ownBlock = some (w5.alloc o).heap.size) :
    (w9.setCell ⟨w.heap.size + 1 + 1, 6, none⟩ v').ownsRow (w.heap.size + 3) e 7 v' (i + 1) (cellsP (ps ++ [p])) ∧ Box (w9.setCell ⟨w.heap.size + 1 + 1, 6, none⟩ v') w.heap.size e cs ∧ Box (w9.setCell ⟨w.heap.size + 1 + 1, 6, none⟩ v') (w.heap.size + 1) e zs ∧ Box (w9.setCell ⟨w.heap.size + 1 + 1, 6, none⟩ v') (w.heap.size + 1 + 1) e (richA k d v') ∧ Kept (fun _ => False) w (w9.setCell ⟨w.heap.size + 1 + 1, 6, none⟩ v') ∧ ∀ q ∈ ps ++ [p], Done8 (w.heap.size + 3) v' (w9.setCell ⟨w.heap.size + 1 + 1, 6, none⟩ v') q := by
  have K5 : Kept (fun _ => False) wr w5 := (Kept.drew (Kept.refl _ wr)).trans hk5 (fun _ _ h => h)
  have hlt := HBo.lt
  have h5 := K5.size
  have KS : Kept (fun b => b = w.heap.size + 1 + 1) w9 (w9.setCell ⟨w.heap.size + 1 + 1, 6, none⟩ v') := Kept.setCell (S := fun b => b = w.heap.size + 1 + 1) (Kept.refl _ w9) (.inl rfl) _
  have R5 := (K5.owns HR (fun _ _ h => h)).alloc o
  have g1 := box_grown8 ((K5.box HBr (fun h => h)).after_alloc o) R5 hg (by omega)
  have g2 := box_grown8 ((K5.box HBz (fun h => h)).after_alloc o) R5 hg (by omega)
  have g3 := box_grown8 ((K5.box HBo (fun h => h)).after_alloc o) R5 hg (by omega)
  have KW : Kept (fun b => vt.ownBlock = some b ∨ b = w.heap.size + 1 + 1) wr (w9.setCell ⟨w.heap.size + 1 + 1, 6, none⟩ v') :=
    (((K5.weaker (fun _ _ h => h.elim)).alloc o).grown hg (fun i hi => .inl (.inl hi))).trans KS (fun i _ h => .inr h)
  refine ⟨?_, KS.box g1 (by omega), KS.box g2 (by omega), ?_, HK.trans KW ?_, ?_⟩
  · rw [cellsP_app]
    simp only [cellsP, List.append_nil]
    exact KS.owns hown (fun i hi h => by have := (hown.lt i hi).1; omega)
  · exact g3.stored 6 v'
  · intro i hi h
    rcases h with h | h
    · have := (HR.lt i h).1; omega
    · omega
  · intro q hq
    rcases List.mem_append.1 hq with hq | hq
    · refine (HD q hq).step KW (by omega) ?_
      rcases hb with hb | hb
      · exact .inl hb
      · exact .inr ⟨_, by simp; omega, hb⟩
    · simp at hq
      subst hq
      refine ⟨w5, wr.heap.size, by omega, hv5, ((((Kept.refl _ w5)).alloc o).grown hg (fun i hi => .inl (HR.lt i hi).2)).trans KS (fun i _ h => by omega), fun g hgo => ?_⟩
      rcases hb with hb | hb
      · rw [hb] at hgo
        exact .inl (HR.lt g hgo).2
      · rw [hb] at hgo
        injection hgo with hgo
        simp at hgo
        omega
theorem copy_result {fn : Func} {p : Tmp} (h : fn.results = #[.cell p 28]) (tmps : Array Value) (W : World) (g : Nat) (cs : Array Value) (hp : tmps.getD p undef = .pointer (some ⟨g, 0, none⟩)) (hB : Box W g 28 cs) (hs : cs.size = 7) :
    (results fn tmps).run Tryz.prog W = .ok (.agg cs) W :=
  results_cell_row h tmps W g 28 cs (0, 0) _ hp hB Tryz.underlying28 rfl (by rw [hs]; kernel_rfl)
set_option maxRecDepth 100000 in
set_option maxHeartbeats 8000000 in
theorem copy8_walk : ∀ (x : R) (v : Value) (w : World), RichS w x v → count x ≤ 2000 →
    Calls Tryz.prog 9 #[v] w fun e w' => (∃ v', e = .returned v' ∧ RichN w.heap.size w' x v' ∧ ∃ vt ps, v' = richV x.kind x.dep vt ∧ ps.map Prod.fst = x.args ∧ w'.ownsRow (w.heap.size + 3) 28 7 vt x.args.length (cellsP ps) ∧ ∀ p ∈ ps, Done8 (w.heap.size + 3) vt w' p) ∧ Kept (fun _ => False) w w' := by
  refine R.ind fun k d l ih v w hr hc => ?_
  rw [RichS] at hr
  obtain ⟨ao, cp, rfl, hk, ho, hA⟩ := hr
  obtain ⟨i0, hi, hz0, hz1, hz2⟩ := info_parts info_rich8
  have hll := counts_len l
  rw [count] at hc
  have hlI : l.length ≤ 2000 := by omega
  have HC := Lib.hid (show counts l ≤ 2000 by omega)
  have HA := Lib.hid hA
  have HI := Lib.hid ih
  have HKO := Lib.hid (And.intro hk ho)
  clear hA ih hc hll hk ho
  go_enter Tryz.func9, Tryz.ntmps9
  go_wp2_with fail
  have HB0 := Lib.hid (show Box (((w.alloc (.cells (richA k d (.slice ao l.length cp)) 28)).alloc (.cells #[.int .u8 0, .string ⟨#[]⟩, .int .u8 0, .int .i64 0, .string ⟨#[]⟩, .string ⟨#[]⟩, .slice none 0 0] 28)).alloc (.cells (richA k d (.slice none 0 0)) 28)) w.heap.size 28 (richA k d (.slice ao l.length cp)) from ((Box.made w 28 (richA k d (.slice ao l.length cp))).after_alloc _).after_alloc _)
  have HBz0 := Lib.hid (show Box (((w.alloc (.cells (richA k d (.slice ao l.length cp)) 28)).alloc (.cells #[.int .u8 0, .string ⟨#[]⟩, .int .u8 0, .int .i64 0, .string ⟨#[]⟩, .string ⟨#[]⟩, .slice none 0 0] 28)).alloc (.cells (richA k d (.slice none 0 0)) 28)) (w.heap.size + 1) 28 #[.int .u8 0, .string ⟨#[]⟩, .int .u8 0, .int .i64 0, .string ⟨#[]⟩, .string ⟨#[]⟩, .slice none 0 0] from by
    have h := (Box.made (w.alloc (.cells (richA k d (.slice ao l.length cp)) 28)) 28 #[.int .u8 0, .string ⟨#[]⟩, .int .u8 0, .int .i64 0, .string ⟨#[]⟩, .string ⟨#[]⟩, .slice none 0 0]).after_alloc (.cells (richA k d (.slice none 0 0)) 28)
    rw [World.size_alloc] at h
    exact h)
  have HBo0 := Lib.hid (show Box (((w.alloc (.cells (richA k d (.slice ao l.length cp)) 28)).alloc (.cells #[.int .u8 0, .string ⟨#[]⟩, .int .u8 0, .int .i64 0, .string ⟨#[]⟩, .string ⟨#[]⟩, .slice none 0 0] 28)).alloc (.cells (richA k d (.slice none 0 0)) 28)) (w.heap.size + 1 + 1) 28 (richA k d (.slice none 0 0)) from by
    have h := Box.made ((w.alloc (.cells (richA k d (.slice ao l.length cp)) 28)).alloc (.cells #[.int .u8 0, .string ⟨#[]⟩, .int .u8 0, .int .i64 0, .string ⟨#[]⟩, .string ⟨#[]⟩, .slice none 0 0] 28)) 28 (richA k d (.slice none 0 0))
    rw [World.size_alloc, World.size_alloc] at h
    exact h)
  have HK0 := Lib.hid (show Kept (fun _ => False) w (((w.alloc (.cells (richA k d (.slice ao l.length cp)) 28)).alloc (.cells #[.int .u8 0, .string ⟨#[]⟩, .int .u8 0, .int .i64 0, .string ⟨#[]⟩, .string ⟨#[]⟩, .slice none 0 0] 28)).alloc (.cells (richA k d (.slice none 0 0)) 28)) from (((Kept.refl _ w).alloc _).alloc _).alloc _)
  generalize (((w.alloc (.cells (richA k d (.slice ao l.length cp)) 28)).alloc (.cells #[.int .u8 0, .string ⟨#[]⟩, .int .u8 0, .int .i64 0, .string ⟨#[]⟩, .string ⟨#[]⟩, .slice none 0 0] 28)).alloc (.cells (richA k d (.slice none 0 0)) 28)) = W3 at *
  go_loopw [4] (fun v4 wr => ∃ (i : Nat) (vt : Value) (ps : List Pc), v4 = .int .i64 (i : Int) ∧ i ≤ l.length ∧ Hid (ps.map Prod.fst = l.take i) ∧ Hid (wr.ownsRow (w.heap.size + 3) 28 7 vt i (cellsP ps)) ∧ Hid (Box wr w.heap.size 28 (richA k d (.slice ao l.length cp))) ∧ Hid (Box wr (w.heap.size + 1) 28 #[.int .u8 0, .string ⟨#[]⟩, .int .u8 0, .int .i64 0, .string ⟨#[]⟩, .string ⟨#[]⟩, .slice none 0 0]) ∧ Hid (Box wr (w.heap.size + 1 + 1) 28 (richA k d vt)) ∧ Hid (Kept (fun _ => False) w wr) ∧ Hid (∀ p ∈ ps, Done8 (w.heap.size + 3) vt wr p)) (fun v4 _ => l.length - (intOf v4).toNat)
  case atStart => exact ⟨0, .slice none 0 0, [], rfl, Nat.zero_le _, Lib.hid (by simp), Lib.hid (World.ownsRow_nil _ _ _ _), HB0, HBz0, HBo0, HK0, Lib.hid (by simp)⟩
  case round =>
    obtain ⟨i, vt, ps, rfl, hi', HP, HR, HBr, HBz, HBo, HK, HD⟩ := hrel
    rename World => wr
    obtain ⟨a3, c3, e3⟩ := own_form HR.out
    subst e3
    have b6 := HBr.out.cell 6
    have o6 := HBo.out.cell 6
    by_cases hlt : i < l.length
    · obtain ⟨x, hx⟩ : ∃ x, l[i]? = some x := ⟨_, List.getElem?_eq_getElem hlt⟩
      obtain ⟨b, off, ao', cp', rfl, hb, hrx, h0, h1, h2, h3, h4, h5, h6⟩ := HA.out.part hx
      have hxm := List.mem_of_getElem? hx
      have hcx : count x ≤ 2000 := by
        have := counts_take hx
        have := counts_take_le l (i + 1)
        have := HC.out
        omega
      have PC := fun W (hk : Kept (fun _ => False) w W) => HI.out x hxm _ W (RichS.kept hk x _ hrx) hcx
      have HPx := Lib.hid (show l.take (i + 1) = l.take i ++ [x] by rw [List.take_add_one, hx]; rfl)
      have d0 := (HK.out.cell (p := ⟨b, off + i * 7, none⟩) hb (fun h => h)).trans h0
      have d1 := (HK.out.cell (p := ⟨b, off + i * 7 + 1, none⟩) hb (fun h => h)).trans h1
      have d2 := (HK.out.cell (p := ⟨b, off + i * 7 + 2, none⟩) hb (fun h => h)).trans h2
      have d3 := (HK.out.cell (p := ⟨b, off + i * 7 + 3, none⟩) hb (fun h => h)).trans h3
      have d4 := (HK.out.cell (p := ⟨b, off + i * 7 + 4, none⟩) hb (fun h => h)).trans h4
      have d5 := (HK.out.cell (p := ⟨b, off + i * 7 + 5, none⟩) hb (fun h => h)).trans h5
      have d6 := (HK.out.cell (p := ⟨b, off + i * 7 + 6, none⟩) hb (fun h => h)).trans h6
      have hi0 : (0 : Int) ≤ (i : Int) := by omega
      have hiI : (i : Int) < (l.length : Int) := by omega
      obtain ⟨kx, dx, lx⟩ := x
      clear hx hrx h0 h1 h2 h3 h4 h5 h6 hxm hcx
      go_wp2_with fail
      go_region_law ((first
        | (rw [if_pos (by rfl)]
           refine wp_append_own8 (.tmp 18) (.tmp 25) 26 rfl (w.heap.size + 3) 28 i0 _ 7 96 Tryz.underlying26 hi hz0 hz1 hz2 rfl (by decide) _ _ _ rfl (HR5.out.alloc _) ⟨w5.heap.size, 0, none⟩ 1 1 (arrP (.mk kx dx lx, ao5, cp5)).toList rfl rfl (one_rich8 _ _ _) (by intro u hu; simp at hu; rcases hu with h | h | h | h | h | h | h <;> (rw [h]; rfl)) (by unfold maxLen; omega) (by omega) (by have := HBo5.out.lt; simp; omega) ?_
           intro v' w9 hown9 hgrow9 hblk9
           obtain ⟨a9, c9, e9⟩ := own_form hown9
           subst e9
           have HBo9 := box_grown8 (HBo5.out.after_alloc _) (HR5.out.alloc _) hgrow9 (by omega)
           have o69 := HBo9.cell 6
           have f69 := HBo9.free 6
           have HRD := Lib.hid (copy_round8 (p := (.mk kx dx lx, ao5, cp5)) HR.out HBr.out HBz.out HBo.out HK.out HD.out HK5.out HN5.out hown9 hgrow9 hblk9)
           clear hown9 hgrow9 hblk9 HBo9)
        | (go_simp; go_at_call 9; refine (PC _ (by repeat' (first | exact HK.out | refine Kept.drewN ?_ _ | refine Kept.drew ?_))).mono ?_; rintro e w5 ⟨⟨v5, rfl, hv5, _⟩, hk5⟩; have q5 := hv5.here; rw [RichS] at q5; obtain ⟨ao5, cp5, rfl, _⟩ := q5; have K5 := Lib.hid ((Kept.drew (Kept.refl (fun _ => False) wr)).trans hk5 (fun _ _ h => h)); have HR5 := Lib.hid (K5.out.owns HR.out (fun _ _ h => h)); have HBo5 := Lib.hid (K5.out.box HBo.out (fun h => h)); have o65 := HBo5.out.cell 6; have o66 := fun ob => (HBo5.out.after_alloc ob).cell 6; have HN5 := Lib.hid hv5; have HK5 := Lib.hid hk5; clear hv5 hk5)
        | fail))
      all_goals go_wp2_with fail
      all_goals go_roundw
      all_goals first
        | (obtain ⟨r1, r2, r3, r4, r5, r6⟩ := HRD.out
           exact ⟨i + 1, _, ps ++ [(.mk kx dx lx, ao5, cp5)], by go_num, by omega, Lib.hid (by rw [HPx.out, List.map_append, HP.out]; rfl), Lib.hid r1, Lib.hid r2, Lib.hid r3, Lib.hid r4, Lib.hid r5, Lib.hid r6⟩)
        | (simp [intOf]; omega)
    · obtain rfl : i = l.length := by omega
      have hge : ¬ (l.length : Int) < (l.length : Int) := by omega
      have z0 := HBz.out.cell 0; have z1 := HBz.out.cell 1; have z2 := HBz.out.cell 2; have z3 := HBz.out.cell 3; have z4 := HBz.out.cell 4; have z5 := HBz.out.cell 5; have z6 := HBz.out.cell 6
      have y0 := HBz.out.free 0; have y1 := HBz.out.free 1; have y2 := HBz.out.free 2; have y3 := HBz.out.free 3; have y4 := HBz.out.free 4; have y5 := HBz.out.free 5; have y6 := HBz.out.free 6
      have o0 := HBo.out.cell 0; have o1 := HBo.out.cell 1; have o2 := HBo.out.cell 2; have o3 := HBo.out.cell 3; have o4 := HBo.out.cell 4; have o5 := HBo.out.cell 5
      go_wp2_with fail
      have hb7 := ((((((HBz.out.stored 0 (.int .u8 (k : Int))).stored 1 (.string ⟨d.name.toArray⟩)).stored 2 (.int .u8 (d.op : Int))).stored 3 (.int .i64 d.evr.epoch)).stored 4 (.string ⟨d.evr.ver.toArray⟩)).stored 5 (.string ⟨d.evr.rel.toArray⟩)).stored 6 (.slice a3 l.length c3)
      have hk7 := ((((((Kept.setCell (S := fun b => b = w.heap.size + 1) (Kept.refl _ wr) (p := ⟨w.heap.size + 1, 0, none⟩) (.inl rfl) (.int .u8 (k : Int))).setCell (p := ⟨w.heap.size + 1, 1, none⟩) (.inl rfl) (.string ⟨d.name.toArray⟩)).setCell (p := ⟨w.heap.size + 1, 2, none⟩) (.inl rfl) (.int .u8 (d.op : Int))).setCell (p := ⟨w.heap.size + 1, 3, none⟩) (.inl rfl) (.int .i64 d.evr.epoch)).setCell (p := ⟨w.heap.size + 1, 4, none⟩) (.inl rfl) (.string ⟨d.evr.ver.toArray⟩)).setCell (p := ⟨w.heap.size + 1, 5, none⟩) (.inl rfl) (.string ⟨d.evr.rel.toArray⟩)).setCell (p := ⟨w.heap.size + 1, 6, none⟩) (.inl rfl) (.slice a3 l.length c3)
      have hp : ps.map Prod.fst = l := by rw [HP.out, List.take_length]
      have hN : RichN (w.heap.size + 2) wr (.mk k d l) (richV k d (.slice a3 l.length c3)) := rich_made (by omega) HKO.out.1 HKO.out.2 hp HR.out HD.out
      exact bodyPost_ret (copy_result rfl _ _ (w.heap.size + 1) _ rfl hb7 rfl) rfl ⟨⟨_, rfl, fun W' hW => hN W' ((hk7.weaker (fun i _ h => by omega)).trans hW (fun i _ h => by omega)), _, rfl, ps, hp, hk7.owns HR.out (fun i hi h => by have := (HR.out.lt i hi).1; omega), fun q1 q2 q3 hq => (HD.out (q1, q2, q3) hq).step (o := w.heap.size + 1) (hk7.weaker (fun i _ h => .inr h)) (by omega) (.inl rfl)⟩, HK.out.trans hk7 (fun i hi h => by omega)⟩
end Go.Proofs.YtlagnebgoclaeaaGreatDoor

namespace Go.Proofs.YtlagnebgoclaeaaGreatDoor
open Go.RowKit Rich

set_option maxRecDepth 100000 in
set_option maxHeartbeats 2000000 in
theorem nodes8_walk : ∀ (x : R) (v : Value) (w : World), RichS w x v → count x ≤ 40000 →
    Calls Tryz.prog 21 #[v] w fun e w' => e = .returned (.int .i64 (count x : Int)) ∧ Kept (fun _ => False) w w' := by
  refine R.ind fun k d l ih v w hr hc => ?_
  rw [RichS] at hr
  obtain ⟨ao, cp, rfl, hk, ho, hA⟩ := hr
  rw [count] at hc
  have hll := counts_len l
  have HI := Lib.hid ih
  have HA := Lib.hid hA
  have HC := Lib.hid hc
  have HCF := Lib.hid (show (count (.mk k d l) : Int) = ((1 + counts l : Nat) : Int) by rw [count])
  have HB := Lib.hid (Box.made w 28 (richA k d (.slice ao l.length cp)))
  clear ih hA hc
  have hlI : l.length ≤ 40000 := by have := HC.out; omega
  go_enter Tryz.func21, Tryz.ntmps21
  go_wp2_with fail
  go_loopw [3, 4] (fun v3 v4 wr => ∃ (i c : Nat), v3 = .int .i64 (c : Int) ∧ v4 = .int .i64 (i : Int) ∧ i ≤ l.length ∧ c ≤ 40000 ∧ Hid (c = 1 + counts (l.take i)) ∧ Hid (Box wr w.heap.size 28 (richA k d (.slice ao l.length cp))) ∧ Hid (Kept (fun _ => False) w wr)) (fun _ v4 _ => l.length - (intOf v4).toNat)
  case atStart => exact ⟨0, 1, rfl, rfl, Nat.zero_le _, by omega, Lib.hid (by rw [List.take_zero, counts]), HB, Lib.hid ((Kept.refl _ _).alloc _)⟩
  case round =>
    obtain ⟨i, c, rfl, rfl, hi, hc4, HCi, HBr, HK⟩ := hrel
    rename World => wr
    have b6 : wr.cell? ⟨w.heap.size, 6, none⟩ = some (.slice ao l.length cp) := HBr.out.cell 6
    by_cases hlt : i < l.length
    · obtain ⟨x, hx⟩ : ∃ x, l[i]? = some x := ⟨_, List.getElem?_eq_getElem hlt⟩
      obtain ⟨b, off, ao', cp', rfl, hb, hrx, d0, d1, d2, d3, d4, d5, d6⟩ := (ArgS.kept HK.out ao 0 l HA.out).part hx
      have hct := counts_take hx
      have hcl := counts_take_le l (i + 1)
      have hcp := count_pos x
      have hcx : count x ≤ 40000 := by have := HC.out; omega
      have PC := HI.out x (List.mem_of_getElem? hx) _ wr hrx hcx
      have HN := Lib.hid (show c + count x = 1 + counts (l.take (i + 1)) by rw [hct, HCi.out]; omega)
      have hcn : c + count x ≤ 40000 := by have := HN.out; have := HC.out; omega
      have hi0 : (0 : Int) ≤ (i : Int) := by omega
      have hiI : (i : Int) < (l.length : Int) := by omega
      generalize count x = cx at *
      clear hx hrx hct hcl hcp
      go_wp2_with (first
        | (go_at_call 21; refine PC.mono ?_; rintro e w5 ⟨rfl, hk5⟩; have HK := Lib.hid (Kept.trans HK.out hk5 (fun _ _ h => h)); have HBr := Lib.hid (hk5.box HBr.out (fun h => h)); clear hk5)
        | fail)
      go_roundw
      case rel => exact ⟨i + 1, c + cx, by go_num, by go_num, by omega, hcn, HN, HBr, HK⟩
      case measure => simp [intOf]; omega
    · have hge : ¬ (i : Int) < (l.length : Int) := by omega
      have HF := Lib.hid (show ((c : Nat) : Int) = (count (.mk k d l) : Int) by
        rw [HCF.out, HCi.out, List.take_of_length_le (by omega)])
      go_wp2_with fail
      go_ret
      exact ⟨by rw [← HF.out]; rfl, HK.out⟩
end Go.Proofs.YtlagnebgoclaeaaGreatDoor

namespace Go.Proofs.YtlagnebgoclaeaaGreatDoor
open Go.RowKit
namespace Rich
/-- The word ahead of a third Arg. -/
def furK (k : Nat) : List UInt8 := match k with
  | 2 => [97, 110, 100]
  | 3 => [111, 114]
  | 4 => wElse
  | 5 => wElse
  | 6 => [119, 105, 116, 104]
  | _ => []
def mostK (k : Nat) : Nat := match k with
  | 2 => 24
  | 3 => 24
  | 4 => 3
  | 5 => 3
  | 6 => 24
  | 7 => 2
  | _ => 0
def wordB (k : Nat) : ByteArray := ⟨(wordK k).toArray⟩
def furB (k : Nat) : ByteArray := ⟨(furK k).toArray⟩
def rowV (k : Nat) : Value := .agg #[.string (wordB k), .string (furB k), .int .i64 (mostK k : Int)]
def rowsL : List Value := [.string (wordB 0), .string (furB 0), .int .i64 (mostK 0 : Int), .string (wordB 1), .string (furB 1), .int .i64 (mostK 1 : Int), .string (wordB 2), .string (furB 2), .int .i64 (mostK 2 : Int), .string (wordB 3), .string (furB 3), .int .i64 (mostK 3 : Int), .string (wordB 4), .string (furB 4), .int .i64 (mostK 4 : Int), .string (wordB 5), .string (furB 5), .int .i64 (mostK 5 : Int), .string (wordB 6), .string (furB 6), .int .i64 (mostK 6 : Int), .string (wordB 7), .string (furB 7), .int .i64 (mostK 7 : Int)]
def rowsV : Value := .agg rowsL.toArray
/-- The word ahead of the Arg that i others precede. -/
def aheadW (k i : Nat) : List UInt8 := if 8 ≤ k ∨ mostK k ≤ i then [] else if i = 1 then wordK k else furK k
theorem ahead_sep {k i : Nat} (hk : 2 ≤ k ∧ k ≤ 7) (h1 : 1 ≤ i) (h : okN k (i + 1) = true) (h24 : i < 24) : aheadW k i = sepW k i := by
  obtain ⟨h2, h7⟩ := hk
  have : k = 2 ∨ k = 3 ∨ k = 4 ∨ k = 5 ∨ k = 6 ∨ k = 7 := by omega
  unfold aheadW sepW
  rcases this with rfl | rfl | rfl | rfl | rfl | rfl
  all_goals
    simp [okN] at h
    simp [mostK, furK, wordK]
    repeat' split
    all_goals first | rfl | omega
/-- As many Args as a Kind may have, and no more than 24. -/
theorem ahead_ok {k n : Nat} (hn : n ≤ 24) : (decide (2 ≤ n) && decide (aheadW k (n - 1) ≠ [])) = okN k n := by
  rw [Bool.eq_iff_iff]
  simp only [Bool.and_eq_true, decide_eq_true_eq]
  by_cases hk : k = 2 ∨ k = 3 ∨ k = 4 ∨ k = 5 ∨ k = 6 ∨ k = 7
  · unfold aheadW okN
    rcases hk with rfl | rfl | rfl | rfl | rfl | rfl
    all_goals
      simp [mostK, furK, wordK, wElse]
      repeat' split
      all_goals first | omega | (simp_all; done) | (simp_all; omega)
  · have h1 : aheadW k (n - 1) = [] := by
      unfold aheadW
      have h0 : 8 ≤ k ∨ mostK k = 0 := by
        by_cases h8 : 8 ≤ k
        · exact .inl h8
        · have : k = 0 ∨ k = 1 := by omega
          rcases this with rfl | rfl <;> exact .inr rfl
      rw [if_pos (by omega)]
    have h2 : okN k n = false := by
      unfold okN
      rw [if_neg (by omega), if_neg (by omega), if_neg (by omega)]
    rw [h1, h2]
    simp
/-- The table lies as the program's text lays it. -/
structure RowsW (w : World) : Prop where
  old : 0 < w.heap.size
  at0 : ∀ k, k < 8 → w.cell? ⟨0, k * 3, none⟩ = some (.string (wordB k))
  at1 : ∀ k, k < 8 → w.cell? ⟨0, k * 3 + 1, none⟩ = some (.string (furB k))
  at2 : ∀ k, k < 8 → w.cell? ⟨0, k * 3 + 2, none⟩ = some (.int .i64 (mostK k : Int))
theorem RowsW.kept {w w' : World} (h : RowsW w) (k : Kept (fun _ => False) w w') : RowsW w' := by
  have hlt : ∀ i : Nat, (⟨0, i, none⟩ : Addr).block < w.heap.size := fun _ => h.old
  exact ⟨Nat.lt_of_lt_of_le h.old k.size, fun j hj => (k.cell (hlt _) (fun h => h)).trans (h.at0 j hj), fun j hj => (k.cell (hlt _) (fun h => h)).trans (h.at1 j hj), fun j hj => (k.cell (hlt _) (fun h => h)).trans (h.at2 j hj)⟩
end Rich
open Rich
set_option maxRecDepth 100000 in
set_option maxHeartbeats 2000000 in
theorem aheadP_walk (k i : Nat) (hk : k < 256) (w : World) (hW : RowsW w) :
    Calls Tryz.prog 37 #[.int .u8 (k : Int), .int .i64 (i : Int)] w fun e w' => e = .returned (.string ⟨(aheadW k i).toArray⟩) ∧ w' = w := by
  by_cases h8 : 8 ≤ k
  · have HF := Lib.hid (show aheadW k i = [] by unfold aheadW; rw [if_pos (.inl h8)])
    have h8' : (8 : Int) ≤ (k : Int) := by omega
    clear h8
    go_enter Tryz.func37, Tryz.ntmps37
    go_wp2_with fail
    go_ret
    exact ⟨by rw [HF.out]; rfl, rfl⟩
  · have h0 := hW.at0 k (by omega)
    have h1 := hW.at1 k (by omega)
    have h2 := hW.at2 k (by omega)
    have h8' : (k : Int) < 8 := by omega
    obtain ⟨m, hm⟩ : ∃ m, m = mostK k := ⟨_, rfl⟩
    rw [← hm] at h2
    by_cases hmi : m ≤ i
    · have HF := Lib.hid (show aheadW k i = [] by unfold aheadW; rw [if_pos (.inr (by omega))])
      have hmi' : (m : Int) ≤ (i : Int) := by omega
      clear hm h8 hmi
      go_enter Tryz.func37, Tryz.ntmps37
      go_wp2_with fail
      go_ret
      exact ⟨by rw [HF.out]; rfl, rfl⟩
    · have hmi' : (i : Int) < (m : Int) := by omega
      by_cases hi1 : i = 1
      · have HF := Lib.hid (show aheadW k i = wordK k by unfold aheadW; rw [if_neg (by omega), if_pos hi1])
        have hib : ((i : Int) == 1) = true := by simp; omega
        clear hm h8 hmi hi1
        go_enter Tryz.func37, Tryz.ntmps37
        go_wp2_with fail
        go_ret
        exact ⟨by rw [HF.out]; rfl, rfl⟩
      · have HF := Lib.hid (show aheadW k i = furK k by unfold aheadW; rw [if_neg (by omega), if_neg hi1])
        have hib : ((i : Int) == 1) = false := by simp; omega
        clear hm h8 hmi hi1
        go_enter Tryz.func37, Tryz.ntmps37
        go_wp2_with fail
        go_ret
        exact ⟨by rw [HF.out]; rfl, rfl⟩
end Go.Proofs.YtlagnebgoclaeaaGreatDoor

namespace Go.Proofs.YtlagnebgoclaeaaGreatDoor
namespace Rich
open Dep

def mayA (k n : Nat) : Bool := decide (2 ≤ n) && decide (aheadW k (n - 1) ≠ [])
mutual
/-- Whether a part is whole at nest n, when c parts were gone over; and how many were then. -/
def goX : R → Nat → Nat → Bool × Nat
  | .mk k d l, n, c =>
    if 24 < c + 1 then (false, c + 1)
    else if k = 1 then (l.isEmpty && mayD d, c + 1)
    else if n = 8 ∨ noD d = false ∨ mayA k l.length = false then (false, c + 1)
    else goL l (n + 1) (c + 1)
def goL : List R → Nat → Nat → Bool × Nat
  | [], _, c => (true, c)
  | x :: l, n, c => if (goX x n c).1 = true then goL l n (goX x n c).2 else (false, (goX x n c).2)
end
mutual
theorem goX_yes : ∀ (x : R) (n c : Nat), n ≤ 8 → (goX x n c).1 = true → Rich.part x = true ∧ (goX x n c).2 = c + count x ∧ c + count x ≤ 24 ∧ Rich.deep x + n ≤ 8
  | .mk k d l, n, c, hn, h => by
    rw [goX] at h ⊢
    by_cases h0 : 24 < c + 1
    · rw [if_pos h0] at h; cases h
    · rw [if_neg h0] at h ⊢
      by_cases hk : k = 1
      · rw [if_pos hk] at h ⊢
        subst hk
        simp only [Bool.and_eq_true] at h
        have hl : l = [] := List.isEmpty_iff.1 h.1
        subst hl
        exact ⟨part_atom.2 ⟨h.2, rfl⟩, by rw [count, counts], by rw [count, counts]; omega, by rw [Rich.deep, if_pos rfl]; omega⟩
      · rw [if_neg hk] at h ⊢
        by_cases h1 : n = 8 ∨ noD d = false ∨ mayA k l.length = false
        · rw [if_pos h1] at h; cases h
        · rw [if_neg h1] at h ⊢
          obtain ⟨g1, g2, g3, g4⟩ := goL_yes l (n + 1) (c + 1) (by omega) (by omega) h
          have hl := counts_len l
          have hd : noD d = true := by
            cases hd : noD d with
            | true => rfl
            | false => exact absurd (.inr (.inl hd)) h1
          have ha : okN k l.length = true := by
            rw [← ahead_ok (by omega)]
            cases ha : mayA k l.length with
            | true => exact ha
            | false => exact absurd (.inr (.inr ha)) h1
          refine ⟨(part_other hk).2 ⟨ha, g1, noD_iff.1 hd⟩, by rw [count]; omega, by rw [count]; omega, by rw [Rich.deep, if_neg hk]; omega⟩
theorem goL_yes : ∀ (l : List R) (n c : Nat), n ≤ 8 → c ≤ 24 → (goL l n c).1 = true → allP l = true ∧ (goL l n c).2 = c + counts l ∧ c + counts l ≤ 24 ∧ deeps l + n ≤ 8
  | [], n, c, hn, hc, _ => by
    rw [goL, allP, counts, deeps]
    exact ⟨rfl, rfl, by omega, by omega⟩
  | x :: l, n, c, hn, hc, h => by
    rw [goL] at h ⊢
    by_cases hx : (goX x n c).1 = true
    · rw [if_pos hx] at h ⊢
      obtain ⟨g1, g2, g3, g4⟩ := goX_yes x n c hn hx
      obtain ⟨k1, k2, k3, k4⟩ := goL_yes l n _ hn (by omega) h
      rw [allP, counts, deeps, g1, k1]
      exact ⟨rfl, by omega, by omega, by omega⟩
    · rw [if_neg hx] at h; cases h
end
mutual
theorem goX_of : ∀ (x : R) (n c : Nat), Rich.part x = true → c + count x ≤ 24 → Rich.deep x + n ≤ 8 → (goX x n c).1 = true
  | .mk k d l, n, c, hp, hc, hd => by
    rw [goX]
    rw [count] at hc
    rw [if_neg (by omega)]
    by_cases hk : k = 1
    · subst hk
      obtain ⟨g1, rfl⟩ := part_atom.1 hp
      rw [if_pos rfl, g1]; rfl
    · rw [if_neg hk]
      obtain ⟨g1, g2, g3⟩ := (part_other hk).1 hp
      rw [Rich.deep, if_neg hk] at hd
      have hl := counts_len l
      have ha : mayA k l.length = true := by unfold mayA; rw [ahead_ok (by omega)]; exact g1
      rw [if_neg (by
        rintro (h | h | h)
        · omega
        · rw [noD_iff.2 g3] at h; cases h
        · rw [ha] at h; cases h)]
      exact goL_of l (n + 1) (c + 1) g2 (by omega) (by omega)
theorem goL_of : ∀ (l : List R) (n c : Nat), allP l = true → c + counts l ≤ 24 → deeps l + n ≤ 8 → (goL l n c).1 = true
  | [], n, c, _, _, _ => by rw [goL]
  | x :: l, n, c, hp, hc, hd => by
    rw [counts] at hc
    rw [deeps] at hd
    obtain ⟨p1, p2⟩ := allP_cons.1 hp
    have h1 := goX_of x n c p1 (by omega) (by omega)
    have h2 := (goX_yes x n c (by omega) h1).2.1
    rw [goL, if_pos h1]
    exact goL_of l n _ p2 (by omega) (by omega)
end
theorem goX_whole (x : R) : (goX x 0 0).1 = whole x := by
  rw [Bool.eq_iff_iff, whole_iff]
  constructor
  · intro h
    obtain ⟨h1, _, h3, h4⟩ := goX_yes x 0 0 (by omega) h
    exact ⟨h1, by omega, by omega⟩
  · rintro ⟨h1, h2, h3⟩
    exact goX_of x 0 0 h1 (by omega) (by omega)
theorem goL_snoc : ∀ (l : List R) (x : R) (n c : Nat), goL (l ++ [x]) n c = if (goL l n c).1 = true then goX x n (goL l n c).2 else goL l n c
  | [], x, n, c => by
    rw [List.nil_append, goL, goL, goL]
    simp only [if_true]
    by_cases h : (goX x n c).1 = true
    · rw [if_pos h]; exact Prod.ext h.symm rfl
    · rw [if_neg h]; exact Prod.ext (by simpa using h) rfl
  | y :: l, x, n, c => by
    rw [List.cons_append, goL, goL]
    by_cases h : (goX y n c).1 = true
    · rw [if_pos h, if_pos h]; exact goL_snoc l x n _
    · rw [if_neg h, if_neg h]; rfl
theorem goL_take {l : List R} {i : Nat} {x : R} (hx : l[i]? = some x) (n c : Nat) (c1 : Nat) (h : goL (l.take i) n c = (true, c1)) : goL (l.take (i + 1)) n c = goX x n c1 := by
  rw [List.take_add_one, hx]
  show goL (l.take i ++ [x]) n c = _
  rw [goL_snoc, h]
  rfl
theorem goL_fail : ∀ {l : List R} {i : Nat} {n c c1 : Nat}, goL (l.take i) n c = (false, c1) → goL l n c = (false, c1)
  | [], _, _, _, _, h => by rw [List.take_nil] at h; exact h
  | x :: l, 0, n, c, c1, h => by rw [List.take_zero, goL] at h; cases h
  | x :: l, i + 1, n, c, c1, h => by
    rw [List.take_succ_cons, goL] at h
    rw [goL]
    by_cases hx : (goX x n c).1 = true
    · rw [if_pos hx] at h ⊢; exact goL_fail h
    · rw [if_neg hx] at h ⊢; exact h
theorem goX_few (x : R) (n c : Nat) (hn : n ≤ 8) (h : (goX x n c).1 = true) : (goX x n c).2 ≤ 24 := by
  obtain ⟨_, h2, h3, _⟩ := goX_yes x n c hn h
  omega
end Rich
end Go.Proofs.YtlagnebgoclaeaaGreatDoor
