/-
  Loads of whole packages, by their run equations, in regions of either kind; what the laws of layer 10 know of a package that is not large. A package that may be, without one element of each of its lists, may be (layer 10: plain facts). Copies of rich dependencies in memory: which hold whatever becomes of older blocks. Nothing of the program is named here but its types. The walks over the document's counts of layer 8: how many parts, how deep. The walk over the document's part (layer 8). The walks over the document's Whole, and the word of a Kind (layer 8). The walks over the document's words, and Words (layer 8). The walk over the document's Copy (layer 8). The walk over the document's Copy (layer 9). Conditions: as each theorem states.
-/
import Derived.Test.YtbofbkndmnidpaaDoorK19
import Derived.Test.YtbofbkndmnidpaaDoorK20
import Derived.Test.YtbofbkndmnidpaaDoorK18
import Derived.Test.YtbofbkndmnidpaaDoorK04
import Derived.Test.YtbofbkndmnidpaaDoorRows
import Derived.Handy
import Derived.Lib.Hide
import Derived.LoopN
import Derived.Deep.QuietTactic
import Derived.Test.YtbofbkndmnidpaaDoorK13
import Derived.WalkKit
import Derived.Maps.AppendAt
import Derived.Deep.RegionLaw
namespace Go.Proofs.YtbofbkndmnidpaaDoor
open Go.RowKit Ver Evr Span Dep Rich

theorem wpList_load_eq {P : Program} {ops : Array Oper} {rest : List Oper} {o : Oper} {a : Act} {w : World} {Q : Exit → Act → World → Prop} (T : TypeId) (x : Operand) (p v : Value) (d : Tmp) (ho : o.op = .load T x) (hx : a.eval x = p) (hd : o.dst = some d) (hw : Region.wanted o (yielded ops a.tmps) = true)
    (hl : (Instr.loadAt T p).run P w = .ok v w) (h : wpList P ops Q rest (a.put (some d) v) w) : wpList P ops Q (o :: rest) a w :=
  BigFrame.wpList_want hw fun K hK => by
    unfold Oper.wp execOp
    simp only [ho, hx, Sem.run_bind, Sem.run_pure, Result.andThen_ok, hl]
    rw [← hd] at h
    exact hK _ _ h
theorem load_row {w : World} {g : Nat} {cs : Array Value} {T : TypeId} {n : Nat} {d : TypeDesc} (hb : Box w g T cs) (hn : cs.size = n) (hu : Tryd.prog.underlying T = some d) (hd : d.isRow = true) (hi : (Tryd.prog.info? T).map (·.size) = some n) : (Instr.loadAt T (.pointer (some ⟨g, 0, none⟩))).run Tryd.prog w = .ok (.agg cs) w := by
  have h := run_loadAt_mid (P := Tryd.prog) w g 0 T cs.toList _ (fun j v hv => by rw [Nat.zero_add, hb.cell]; simpa using hv) hu hd (by rw [Array.length_toList, hn]; exact hi)
  simpa using h
/-- A load of a whole package, kept whole. -/
def loadPk (v : Value) : Sem Next := do pure (.value (← Instr.loadAt 33 v))
theorem execOp_loadPk (ρ : Operand → Value) (dst : Option Tmp) (x : Operand) (ty : TypeId) (pos : String) (after : Array Edge) (guard : Option (Nat × Bool)) :
    execOp ρ { dst, op := .load 33 x, type := ty, pos, after, guard } = loadPk (ρ x) := rfl
theorem run_loadPk {w : World} {g : Nat} {cs : Array Value} (hb : Box w g 33 cs) (hn : cs.size = 15) : (loadPk (.pointer (some ⟨g, 0, none⟩))).run Tryd.prog w = .ok (.value (.agg cs)) w := by
  unfold loadPk
  simp only [Sem.run_bind, Sem.run_pure, Result.andThen_ok, load_pk hb hn]
theorem PkSmall.ok {p : Pk} (h : PkSmall p) : p.nm.size ≤ 1000000 ∧ p.v.size ≤ 1000000 ∧ p.r.size ≤ 1000000 := ⟨by have := h.nm; omega, by have := h.v; omega, by have := h.r; omega⟩
theorem PkSmall.obok {p : Pk} (h : PkSmall p) (hF : PkFits p) : ∀ e ∈ p.ob, DeOk e := fun e he => by
  obtain ⟨h1, h2, h3⟩ := h.ob e he
  exact ⟨by omega, (hF.ob e he).2.1, by omega, by omega⟩
theorem PkSmall.pvok {p : Pk} (h : PkSmall p) (hF : PkFits p) : ∀ e ∈ p.pv, DeOk e := fun e he => by
  obtain ⟨h1, h2, h3⟩ := h.pv e he
  exact ⟨by omega, (hF.pv e he).2.1, by omega, by omega⟩
/-- Whom p obsoletes. -/
def obsB (p q : Pk) : Bool := p.ob.any fun d => namedB q.nm q.n q.v q.r d
theorem obs10_walk (p q : Pk) (s t : Sl) (w : World) (hP : PkIn w p s) (hl : p.ob.length < 140737488355328) (hd : ∀ d ∈ p.ob, DeOk d) (hn : q.nm.size ≤ 1000000) (hv : q.v.size ≤ 1000000) (hr : q.r.size ≤ 1000000) :
    Calls Tryd.prog 9 #[.agg (pkA p s), .agg (pkA q t)] w fun e w' => e = .returned (.bool (obsB p q)) ∧ Kept (fun _ => False) w w' :=
  obs_walk p.nm p.n p.v p.r p.a p.vd s.s4 s.s5 s.s6 s.s7 s.s8 s.s9 s.s10 s.s11 s.s12 q.nm q.n q.v q.r q.a q.vd t.s4 t.s5 t.s6 t.s7 t.s8 t.s9 t.s10 t.s11 t.s12 p.ob hl hd hn hv hr w hP.ob
theorem own10x_walk (p : Pk) (s : Sl) (w : World) (hn : p.nm.size ≤ 1000000) (hv : p.v.size ≤ 1000000) (hr : p.r.size ≤ 1000000) :
    Calls Tryd.prog 42 #[.agg (pkA p s)] w fun e w' => e = .returned (.agg #[.string p.nm, .int .u8 2, .int .i64 p.n, .string p.v, .string p.r]) ∧ Kept (fun _ => False) w w' :=
  own10_walk p.nm p.n p.v p.r p.a p.vd s.s4 s.s5 s.s6 s.s7 s.s8 s.s9 s.s10 s.s11 s.s12 hn hv hr w
theorem named_self (nm : ByteArray) (n : Int) (v r : ByteArray) : namedB nm n v r ⟨nm, 2, n, v, r⟩ = true := by
  unfold namedB meetsB
  have h : cmpE (evrE n v r) (evrE n v r) = 0 := e_self _
  rw [decide_eq_true rfl, Bool.true_and, h]
  exact (by decide +kernel : meetO 2 2 0 = true)
end Go.Proofs.YtbofbkndmnidpaaDoor

namespace Go.Proofs.YtbofbkndmnidpaaDoor
open Go.RowKit Ver Evr Span Dep Rich

/-- A list without element number k, counted around. -/
def cutL {α : Type} (k : Nat) (l : List α) : List α := l.take (k % l.length) ++ l.drop (k % l.length + 1)
theorem cutL_sub {α : Type} (k : Nat) (l : List α) : (cutL k l).Sublist l := by
  unfold cutL
  have h := (List.Sublist.refl (l.take (k % l.length))).append (List.drop_sublist 1 (l.drop (k % l.length)))
  rw [List.drop_drop, List.take_append_drop] at h
  exact h
theorem cutL_nil {α : Type} (k : Nat) : cutL k ([] : List α) = [] := by simp [cutL]
theorem mem_cutL {α : Type} {k : Nat} {l : List α} {x : α} (h : x ∈ cutL k l) : x ∈ l := (cutL_sub k l).subset h
theorem cutL_len {α : Type} (k : Nat) (l : List α) : (cutL k l).length ≤ l.length := (cutL_sub k l).length_le
theorem depsB_sub {l m : List De} (hs : m.Sublist l) (h : depsB l = true) : depsB m = true := by
  unfold depsB at h ⊢
  rw [Bool.and_eq_true, decide_eq_true_eq, List.all_eq_true] at h ⊢
  exact ⟨Nat.le_trans hs.length_le h.1, fun x hx => h.2 x (hs.subset hx)⟩
theorem okL_sub {l m : List R} {wh : Nat} (hs : m.Sublist l) (h : okL l wh = true) : okL m wh = true := by
  unfold okL at h ⊢
  rw [Bool.and_eq_true, decide_eq_true_eq, List.all_eq_true] at h ⊢
  exact ⟨Nat.le_trans hs.length_le h.1, fun x hx => h.2 x (hs.subset hx)⟩
theorem pw_of10 {Q : ByteArray → ByteArray → Prop} (ht : ∀ a b c, Q a b → Q b c → Q a c) : ∀ {L : List ByteArray}, (∀ (i : Nat) a b, L[i]? = some a → L[i + 1]? = some b → Q a b) → L.Pairwise Q
  | [], _ => List.Pairwise.nil
  | [x], _ => by simp
  | x :: z :: L, h => by
    have ih : (z :: L).Pairwise Q := pw_of10 ht fun i a b h1 h2 => h (i + 1) a b (by simpa using h1) (by simpa using h2)
    refine List.pairwise_cons.2 ⟨fun y hy => ?_, ih⟩
    have hx : Q x z := h 0 x z rfl rfl
    rcases List.mem_cons.1 hy with rfl | hy
    · exact hx
    · exact ht _ _ _ hx ((List.pairwise_cons.1 ih).1 y hy)
/-- Which files may be: each is one's name, and each stands above the one before it. -/
theorem filesB_iff (l : List ByteArray) : filesB l = true ↔ l.length ≤ 32 ∧ (∀ u ∈ l, fileD u.data.toList = true) ∧ ((⟨#[]⟩ :: l).Pairwise fun a b => Op.bytesLess a.toList b.toList = true) := by
  have key : ∀ (i : Nat) (a b : ByteArray), (⟨#[]⟩ :: l)[i]? = some a → (⟨#[]⟩ :: l)[i + 1]? = some b → nthF l i = a ∧ nthF l (i + 1) = b ∧ i < l.length := by
    intro i a b h1 h2
    have h3 := (List.getElem?_eq_some_iff.1 h2).1
    simp only [List.length_cons] at h3
    unfold nthF
    rw [List.getD_eq_getElem?_getD, List.getD_eq_getElem?_getD, h1, h2]
    exact ⟨rfl, rfl, by omega⟩
  unfold filesB
  rw [Bool.and_eq_true, decide_eq_true_eq, Bool.not_eq_true', List.any_eq_false]
  constructor
  · rintro ⟨h1, h2⟩
    have h3 : ∀ i, i < l.length → stepF (nthF l i) (nthF l (i + 1)) = true := fun i hi => by
      have := h2 i (by simpa using hi)
      simpa using this
    refine ⟨h1, fun u hu => ?_, pw_of10 (Q := fun a b : ByteArray => Op.bytesLess a.toList b.toList = true) (fun a b c g1 g2 => bl_trans a.toList b.toList c.toList g1 g2) fun i a b g1 g2 => ?_⟩
    · obtain ⟨i, hi, rfl⟩ := List.mem_iff_getElem.1 hu
      have h4 := h3 i hi
      rw [nthF_at (List.getElem?_eq_getElem hi)] at h4
      unfold stepF at h4
      rw [Bool.and_eq_true] at h4
      exact h4.2
    · obtain ⟨e1, e2, hi⟩ := key i a b g1 g2
      have h4 := h3 i hi
      rw [e1, e2] at h4
      unfold stepF at h4
      rw [Bool.and_eq_true] at h4
      exact h4.1
  · rintro ⟨h1, h2, h3⟩
    refine ⟨h1, fun i hi => ?_⟩
    have hi' : i < l.length := by simpa using hi
    rw [List.pairwise_iff_getElem] at h3
    have h4 := h3 i (i + 1) (by simp; omega) (by simp; omega) (by omega)
    obtain ⟨e1, e2, _⟩ := key i _ _ (List.getElem?_eq_getElem (by simp; omega)) (List.getElem?_eq_getElem (by simp; omega))
    rw [← e1, ← e2] at h4
    have h5 := h2 _ (List.getElem_mem hi')
    rw [← nthF_at (List.getElem?_eq_getElem hi')] at h5
    unfold stepF
    rw [h4, h5]
    simp
theorem filesB_sub {l m : List ByteArray} (hs : m.Sublist l) (h : filesB l = true) : filesB m = true := by
  rw [filesB_iff] at h ⊢
  obtain ⟨h1, h2, h3⟩ := h
  exact ⟨Nat.le_trans hs.length_le h1, fun u hu => h2 u (hs.subset hu), h3.sublist (hs.cons_cons _)⟩
/-- p, with lists that are parts of its own. -/
structure Sub10 (p q : Pk) : Prop where
  nm : q.nm = p.nm
  n : q.n = p.n
  v : q.v = p.v
  r : q.r = p.r
  a : q.a = p.a
  vd : q.vd = p.vd
  pv : q.pv.Sublist p.pv
  rq : q.rq.Sublist p.rq
  cf : q.cf.Sublist p.cf
  ob : q.ob.Sublist p.ob
  rc : q.rc.Sublist p.rc
  sp : q.sp.Sublist p.sp
  sg : q.sg.Sublist p.sg
  en : q.en.Sublist p.en
  fi : q.fi.Sublist p.fi
theorem Sub10.may {p q : Pk} (h : Sub10 p q) (hm : mayB p = true) : mayB q = true := by
  unfold mayB richB at hm ⊢
  rw [h.nm, h.n, h.v, h.r, h.a, h.vd]
  simp only [Bool.and_eq_true] at hm ⊢
  obtain ⟨⟨⟨⟨⟨⟨⟨⟨h1, h2⟩, h3⟩, h4⟩, h5⟩, h6⟩, h7⟩, h8⟩, h9⟩ := hm
  obtain ⟨⟨⟨⟨⟨g1, g2⟩, g3⟩, g4⟩, g5⟩, g6⟩ := h8
  exact ⟨⟨⟨⟨⟨⟨⟨⟨h1, h2⟩, h3⟩, h4⟩, h5⟩, depsB_sub h.pv h6⟩, depsB_sub h.ob h7⟩, ⟨⟨⟨⟨⟨okL_sub h.rq g1, okL_sub h.cf g2⟩, okL_sub h.rc g3⟩, okL_sub h.sp g4⟩, okL_sub h.sg g5⟩, okL_sub h.en g6⟩⟩, filesB_sub h.fi h9⟩
theorem fitsLs_sub {l m : List R} (hs : m.Sublist l) (h : fitsLs l) : fitsLs m := by
  refine ⟨Nat.lt_of_le_of_lt hs.length_le h.1, ?_⟩
  have h2 : ∀ x ∈ m, fitsX x := fun x hx => fitsL_mem h.2 (hs.subset hx)
  clear h hs
  induction m with
  | nil => rw [fitsL]; trivial
  | cons x m ih => rw [fitsL]; exact ⟨h2 x (by simp), ih fun y hy => h2 y (by simp [hy])⟩
theorem Sub10.fits {p q : Pk} (h : Sub10 p q) (hf : PkFits p) : PkFits q :=
  ⟨by rw [h.nm]; exact hf.nm, by rw [h.v]; exact hf.v, by rw [h.r]; exact hf.r, by rw [h.a]; exact hf.a, by rw [h.vd]; exact hf.vd, Nat.lt_of_le_of_lt h.pv.length_le hf.pvl, fun e he => hf.pv e (h.pv.subset he), Nat.lt_of_le_of_lt h.ob.length_le hf.obl, fun e he => hf.ob e (h.ob.subset he),
    fitsLs_sub h.rq hf.rq, fitsLs_sub h.cf hf.cf, fitsLs_sub h.rc hf.rc, fitsLs_sub h.sp hf.sp, fitsLs_sub h.sg hf.sg, fitsLs_sub h.en hf.en, Nat.lt_of_le_of_lt h.fi.length_le hf.fil, fun u hu => hf.fi u (h.fi.subset hu)⟩
theorem Sub10.few {p q : Pk} (h : Sub10 p q) (hf : PkFew p) : PkFew q :=
  ⟨fun x hx => hf.rq x (h.rq.subset hx), fun x hx => hf.cf x (h.cf.subset hx), fun x hx => hf.rc x (h.rc.subset hx), fun x hx => hf.sp x (h.sp.subset hx), fun x hx => hf.sg x (h.sg.subset hx), fun x hx => hf.en x (h.en.subset hx)⟩
theorem Sub10.refl (p : Pk) : Sub10 p p := ⟨rfl, rfl, rfl, rfl, rfl, rfl, List.Sublist.refl _, List.Sublist.refl _, List.Sublist.refl _, List.Sublist.refl _, List.Sublist.refl _, List.Sublist.refl _, List.Sublist.refl _, List.Sublist.refl _, List.Sublist.refl _⟩
end Go.Proofs.YtbofbkndmnidpaaDoor

namespace Go.Proofs.YtbofbkndmnidpaaDoor
open Go.RowKit
namespace Rich

/-- Reads so, whatever becomes of the blocks below base. -/
def RichN (base : Nat) (w : World) (x : R) (v : Value) : Prop := ∀ W, Kept (fun b => b < base) w W → RichS W x v
theorem RichN.here {base : Nat} {w : World} {x : R} {v : Value} (h : RichN base w x v) : RichS w x v := h w (Kept.refl _ _)
abbrev Pc := R × Option Addr × Nat
abbrev arrP (p : Pc) : Array Value := richA p.1.kind p.1.dep (.slice p.2.1 p.1.args.length p.2.2)
abbrev valP (p : Pc) : Value := .agg (arrP p)
def cellsP : List Pc → List Value
  | [] => []
  | p :: l => (arrP p).toList ++ cellsP l
theorem cellsP_app : ∀ a b : List Pc, cellsP (a ++ b) = cellsP a ++ cellsP b
  | [], _ => rfl
  | p :: a, b => by simp [cellsP, cellsP_app a b]
theorem cellsP_len : ∀ a : List Pc, (cellsP a).length = a.length * 7
  | [] => rfl
  | p :: a => by simp [cellsP, cellsP_len a]; omega
theorem cellsP_one : ∀ a : List Pc, ∀ u ∈ cellsP a, u.oneCell' = true
  | [], u, h => by simp [cellsP] at h
  | p :: a, u, h => by
    simp only [cellsP, List.mem_append] at h
    rcases h with h | h
    · simp at h
      rcases h with h | h | h | h | h | h | h <;> (rw [h]; rfl)
    · exact cellsP_one a u h
theorem cellsP_at : ∀ (l : List Pc) (i : Nat) (p : Pc), l[i]? = some p → ∀ (j : Nat) u, (arrP p).toList[j]? = some u → (cellsP l)[i * 7 + j]? = some u
  | [], _, _, h, _, _, _ => by simp at h
  | e :: l, 0, p, h, j, u, hu => by
    injection h with h
    subst h
    have hj : j < (arrP e).toList.length := (List.getElem?_eq_some_iff.1 hu).1
    rw [cellsP, Nat.zero_mul, Nat.zero_add, List.getElem?_append_left hj]
    exact hu
  | e :: l, i + 1, p, h, j, u, hu => by
    have := cellsP_at l i p (by simpa using h) j u hu
    have e0 : (i + 1) * 7 + j = (arrP e).toList.length + (i * 7 + j) := by simp; omega
    rw [cellsP, e0, List.getElem?_append_right (by omega), Nat.add_sub_cancel_left]
    exact this
/-- A part that was copied: it holds whatever becomes of what lies below its world, and what came of the world since is of that sort. -/
def Done8 (B : Nat) (vt : Value) (wr : World) (p : Pc) : Prop := ∃ wj bj, B ≤ bj ∧ RichN bj wj p.1 (valP p) ∧ Kept (fun b => b < bj) wj wr ∧ ∀ g, vt.ownBlock = some g → g < bj ∨ wj.heap.size ≤ g
theorem Done8.step {B o : Nat} {vt vt' : Value} {wr w' : World} {p : Pc} (h : Done8 B vt wr p) (hk : Kept (fun b => vt.ownBlock = some b ∨ b = o) wr w') (ho : o < B) (hv : vt'.ownBlock = vt.ownBlock ∨ ∃ n, wr.heap.size ≤ n ∧ vt'.ownBlock = some n) : Done8 B vt' w' p := by
  obtain ⟨wj, bj, h1, h2, h3, h4⟩ := h
  refine ⟨wj, bj, h1, h2, h3.trans hk fun i hi hs => ?_, fun g hg => ?_⟩
  · rcases hs with hs | hs
    · rcases h4 i hs with h | h
      · exact h
      · omega
    · omega
  · rcases hv with hv | ⟨n, hn, hv⟩
    · exact h4 g (by rw [← hv]; exact hg)
    · rw [hv] at hg
      injection hg with hg
      have := h3.size
      omega
/-- A row of copied parts reads as the whole. -/
theorem rich_made {B w0 k : Nat} {d : Dep.D} {l : List R} {ps : List Pc} {vt : Value} {wr : World} {e : TypeId} (hB : w0 ≤ B) (hk : k < 256) (hd : d.op < 256) (hp : ps.map Prod.fst = l) (ho : wr.ownsRow B e 7 vt l.length (cellsP ps)) (hD : ∀ p ∈ ps, Done8 B vt wr p) :
    RichN w0 wr (.mk k d l) (richV k d vt) := by
  intro W hW
  have hl : ps.length = l.length := by rw [← hp]; simp
  have ho' := hW.owns ho (fun i hi h => by have := (ho.lt i hi).1; omega)
  rw [RichS]
  rcases ho'.2 with ⟨hv, hn⟩ | ⟨g, cap, cur, rfl, hg, hh, _⟩
  · have : l = [] := List.eq_nil_of_length_eq_zero hn
    subst this
    exact ⟨none, 0, by rw [hv]; rfl, hk, hd, by rw [ArgS]; trivial⟩
  · refine ⟨some ⟨g, 0, none⟩, cap, rfl, hk, hd, ArgS.of fun i x hx => ?_⟩
    rw [← hp, List.getElem?_map] at hx
    obtain ⟨p, h1, rfl⟩ := Option.map_eq_some_iff.1 hx
    obtain ⟨wj, bj, g1, g2, g3, _⟩ := hD p (List.mem_of_getElem? h1)
    have hc := cellsP_at ps i p h1
    refine ⟨g, 0, valP p, rfl, ?_, g2 W (g3.trans hW fun i _ h => by omega), fun j u hj => ?_⟩
    · have := Array.getElem?_eq_some_iff.1 hh
      exact this.1
    · have := (own_cell ho' (hc j u hj)).1
      rw [show 0 + (0 + i) * 7 + j = i * 7 + j by omega]
      exact this
end Rich
end Go.Proofs.YtbofbkndmnidpaaDoor

namespace Go.Proofs.YtbofbkndmnidpaaDoor
open Go.RowKit Rich

theorem deeps_take {l : List R} {i : Nat} {x : R} (h : l[i]? = some x) : deeps (l.take (i + 1)) = max (deeps (l.take i)) (deep x) := by
  rw [List.take_add_one, h]
  have app : ∀ a b : List R, deeps (a ++ b) = max (deeps a) (deeps b) := by
    intro a b
    induction a with
    | nil => rw [deeps, List.nil_append]; omega
    | cons y a ih => rw [List.cons_append, deeps, deeps, ih]; omega
  rw [app]
  show max _ (deeps [x]) = _
  rw [deeps, deeps]
  omega
theorem deep_count : ∀ x : R, deep x ≤ count x := by
  refine R.ind fun k d l ih => ?_
  rw [deep, count]
  split
  · omega
  · have : deeps l ≤ counts l := by
      induction l with
      | nil => rw [deeps]; omega
      | cons y l ih2 =>
        rw [deeps, counts]
        have := ih y (by simp)
        have := ih2 (fun z hz => ih z (by simp [hz]))
        omega
    omega
end Go.Proofs.YtbofbkndmnidpaaDoor

namespace Go.Proofs.YtbofbkndmnidpaaDoor
open Go.RowKit Rich

theorem dep_zero (d : Dep.D) (W : World) : (binOp .eql 25 (.agg #[.string ⟨d.name.toArray⟩, .int .u8 (d.op : Int), .int .i64 d.evr.epoch, .string ⟨d.evr.ver.toArray⟩, .string ⟨d.evr.rel.toArray⟩]) (.agg #[.string ⟨#[]⟩, .int .u8 0, .int .i64 0, .string ⟨#[]⟩, .string ⟨#[]⟩])).run Tryd.prog W = .ok (.bool (noD d)) W := by
  obtain ⟨n, o, ⟨e, v, r⟩⟩ := d
  simp [go_sem, noD, Dep.noE]
  by_cases h1 : n = []
  · by_cases h2 : o = 0
    · by_cases h3 : e = 0
      · by_cases h4 : v = []
        · by_cases h5 : r = [] <;> simp [h1, h2, h3, h4, h5]
        · simp [h1, h2, h3, h4]
      · simp [h1, h2, h3]
    · simp [h1, h2]
  · simp [h1]
theorem allP_take_no {l : List R} {i : Nat} {x : R} (hx : l[i]? = some x) (h : Rich.part x = false) : allP l = false := by
  cases ha : allP l with
  | false => rfl
  | true =>
    have key : ∀ {l : List R}, allP l = true → ∀ y ∈ l, Rich.part y = true := by
      intro l
      induction l with
      | nil => intro _ y hy; simp at hy
      | cons z l ih =>
        intro hl y hy
        rw [allP, Bool.and_eq_true] at hl
        rcases List.mem_cons.1 hy with rfl | hy
        · exact hl.1
        · exact ih hl.2 y hy
    rw [key ha x (List.mem_of_getElem? hx)] at h
    cases h
theorem allP_take_yes : ∀ {l : List R}, (∀ x ∈ l, Rich.part x = true) → allP l = true
  | [], _ => by rw [allP]
  | x :: l, h => by rw [allP, h x (by simp), allP_take_yes (fun y hy => h y (by simp [hy]))]; rfl
end Go.Proofs.YtbofbkndmnidpaaDoor

namespace Go.Proofs.YtbofbkndmnidpaaDoor
open Go.RowKit Rich

end Go.Proofs.YtbofbkndmnidpaaDoor

namespace Go.Proofs.YtbofbkndmnidpaaDoor
open Go.RowKit Rich
open Dep (wordsD)

abbrev bytesV (l : List (List UInt8)) : List ByteArray := l.map fun x => ⟨x.toArray⟩
theorem own_one8 {w : World} {B g : Nat} {e : TypeId} {x : Value} (hB : B ≤ g) (hb : Box w g e #[x]) : w.ownsRow B e 1 (.slice (some ⟨g, 0, none⟩) 1 1) 1 [x] :=
  ⟨rfl, .inr ⟨g, 1, #[x], rfl, hB, hb, Nat.le_refl _, by unfold maxLen; omega, rfl, rfl⟩⟩
theorem one_new8 (W : World) (t : TypeId) (s : ByteArray) : ∀ (j : Nat) u, (cellsS [s])[j]? = some u → (W.alloc (.cells #[.string s] t)).cell? ((⟨W.heap.size, 0, none⟩ : Addr).add j) = some u := by
  intro j u hj
  match j, hj with
  | 0, hj => simp [cellsS] at hj; subst hj; simp [Addr.add]
  | j + 1, hj => simp [cellsS] at hj
theorem box_grown8 {w w1 : World} {g base n size : Nat} {e t : TypeId} {v : Value} {xs : List Value} {cs : Array Value} (hb : Box w g t cs) (ho : w.ownsRow base e size v n xs) (hg : w.grownBy w1 v.ownBlock) (hlt : g < base) : Box w1 g t cs :=
  (hg.block g hb.lt (fun e => by have := (ho.lt g e.symm).1; omega)).trans hb
mutual
theorem wordsR_len : ∀ x : R, Rich.part x = true → (wordsR x).length + 1 ≤ 4 * count x
  | .mk k d l, h => by
    rw [count]
    by_cases hk : k = 1
    · subst hk
      rw [wordsR, if_pos rfl]
      by_cases h0 : d.op = 0
      · rw [wordsD_any h0]; simp; omega
      · rw [wordsD_op h0]; simp; omega
    · rw [Rich.part, if_neg hk, Bool.and_eq_true, Bool.and_eq_true] at h
      have := wordsL_len l h.1.2 k 0
      rw [wordsR, if_neg hk]
      simp only [List.length_cons, List.length_append, List.length_nil]
      omega
theorem wordsL_len : ∀ l : List R, allP l = true → ∀ k i, (wordsL k i l).length ≤ 4 * counts l
  | [], _, k, i => by rw [wordsL, counts]; simp
  | x :: l, h, k, i => by
    rw [allP, Bool.and_eq_true] at h
    have h1 := wordsR_len x h.1
    have h2 := wordsL_len l h.2 k (i + 1)
    have h3 : (sepL k i).length ≤ 1 := by unfold sepL; split <;> simp
    rw [wordsL, counts]
    simp only [List.length_append]
    omega
end
theorem wordsL_take (k : Nat) : ∀ (l : List R) (i0 i : Nat) (x : R), l[i]? = some x → wordsL k i0 (l.take (i + 1)) = wordsL k i0 (l.take i) ++ (sepL k (i0 + i) ++ wordsR x)
  | [], _, _, _, h => by simp at h
  | y :: l, i0, 0, x, h => by
    simp at h
    subst h
    rw [List.take_succ_cons, List.take_zero, List.take_zero, wordsL, wordsL, wordsL]
    simp
  | y :: l, i0, i + 1, x, h => by
    rw [List.take_succ_cons, List.take_succ_cons, wordsL, wordsL, wordsL_take k l (i0 + 1) i x (by simpa using h), show i0 + 1 + i = i0 + (i + 1) by omega]
    simp
theorem allP_at {l : List R} (h : allP l = true) {x : R} (hx : x ∈ l) : Rich.part x = true := by
  cases hp : Rich.part x with
  | true => rfl
  | false =>
    obtain ⟨i, hi, he⟩ := List.getElem_of_mem hx
    rw [allP_take_no (i := i) (by rw [List.getElem?_eq_getElem hi, he]) hp] at h
    cases h
theorem cells_at8 {w : World} {ad : Addr} {X : List ByteArray} (h : ∀ (j : Nat) (u : ByteArray), X[j]? = some u → ∃ a : Addr, some ad = some a ∧ w.cell? (a.add j) = some (.string u) ∧ a.block < w.heap.size) : ∀ (j : Nat) u, (cellsS X)[j]? = some u → w.cell? (ad.add j) = some u := by
  intro j u hj
  simp only [cellsS, List.getElem?_map, Option.map_eq_some_iff] at hj
  obtain ⟨y, hy, rfl⟩ := hj
  obtain ⟨a, e, h1, _⟩ := h j y hy
  injection e with e
  subst e
  exact h1
theorem words_some (x : R) : wordsR x ≠ [] := by
  obtain ⟨k, d, l⟩ := x
  rw [wordsR]
  split
  · exact Dep.words_ne d
  · simp
end Go.Proofs.YtbofbkndmnidpaaDoor

namespace Go.Proofs.YtbofbkndmnidpaaDoor
open Go.RowKit Rich

theorem info_rich8 : (Tryd.prog.info? 28).map (fun i => (i.zero, i.size, i.bytes)) = some (some (.agg #[.int .u8 0, .string ⟨#[]⟩, .int .u8 0, .int .i64 0, .string ⟨#[]⟩, .string ⟨#[]⟩, .slice none 0 0]), 7, 96) := by kernel_rfl
theorem wp_append_own8 {P : Program} {w : World} {o : Oper} {a : Act} {K : Act → World → Prop} {Q : Exit → Act → World → Prop} (s x : Operand) (t : TypeId)
    (ho : o.op = .call { callee := .builtin .append, args := #[s, x], argTypes := #[t, t] })
    (base : Nat) (e : TypeId) (i : TypeInfo) (z : Value) (size bytes : Nat) (ht : P.underlying t = some (.slice e)) (hi : P.info? e = some i) (hz : i.zero = some z)
    (hsize : i.size = size) (hby : i.bytes = bytes) (hzs : z.cells.size = size) (hsz : 0 < size)
    (v : Value) (n : Nat) (xs : List Value) (hs : a.eval s = v) (hown : w.ownsRow base e size v n xs)
    (ad : Addr) (m c : Nat) (news : List Value) (hx : a.eval x = .slice (some ad) m c) (hl : news.length = m * size) (hnews : ∀ j u, news[j]? = some u → w.cell? (ad.add j) = some u) (h1 : ∀ u ∈ news, u.oneCell' = true)
    (h63 : n + m ≤ maxLen) (hbytes : (n + m) * bytes ≤ 140737488355328) (hbase : base ≤ w.heap.size)
    (h : ∀ v' w', w'.ownsRow base e size v' (n + m) (xs ++ news) → w.grownBy w' v.ownBlock → (v'.ownBlock = v.ownBlock ∨ v'.ownBlock = some w.heap.size) → K (a.put o.dst v') w') : o.wp P a w K Q := by
  obtain ⟨v', w', hr, h2, h3, _, h5⟩ := run_append_own_at (P := P) w base t o.type e i z size bytes ht hi hz hsize hby hzs hsz v n xs hown ad m c news hl hnews h1 h63 hbytes hbase
  unfold Oper.wp execOp
  simp only [ho, resolve, invoke, builtin, Sem.run_bind, Sem.run_pure, Result.andThen_ok, List.map_toArray, List.map_cons, List.map_nil, hs, hx, hr]
  exact h v' w' h2 h3 h5
theorem one_rich8 (W : World) (t : TypeId) (cs : Array Value) : ∀ (j : Nat) u, cs.toList[j]? = some u → (W.alloc (.cells cs t)).cell? ((⟨W.heap.size, 0, none⟩ : Addr).add j) = some u := by
  intro j u hj
  have h := (Box.made W t cs).cell j
  rw [show ((⟨W.heap.size, 0, none⟩ : Addr).add j) = ⟨W.heap.size, j, none⟩ by simp [Addr.add]; try omega, h]
  simpa using hj
/-- What a round leaves. -/
theorem copy_round8 {w wr w5 w9 : World} {e : TypeId} {k i : Nat} {d : Dep.D} {vt v' : Value} {cs zs : Array Value} {ps : List Pc} {p : Pc} {o : Obj}
    (HR : wr.ownsRow (w.heap.size + 3) e 7 vt i (Rich.cellsP ps)) (HBr : Box wr w.heap.size e cs) (HBz : Box wr (w.heap.size + 1) e zs) (HBo : Box wr (w.heap.size + 1 + 1) e (richA k d vt)) (HK : Kept (fun _ => False) w wr)
    (HD : ∀ q ∈ ps, Done8 (w.heap.size + 3) vt wr q) (hk5 : Kept (fun _ => False) wr.drew w5) (hv5 : RichN wr.drew.heap.size w5 p.1 (valP p))
    (hown : w9.ownsRow (w.heap.size + 3) e 7 v' (i + 1) (Rich.cellsP ps ++ (arrP p).toList)) (hg : (w5.alloc o).grownBy w9 vt.ownBlock) (hb : v'.ownBlock = vt.ownBlock ∨ v'.ownBlock = some (w5.alloc o).heap.size) :
    (w9.setCell ⟨w.heap.size + 1 + 1, 6, none⟩ v').ownsRow (w.heap.size + 3) e 7 v' (i + 1) (Rich.cellsP (ps ++ [p])) ∧ Box (w9.setCell ⟨w.heap.size + 1 + 1, 6, none⟩ v') w.heap.size e cs ∧ Box (w9.setCell ⟨w.heap.size + 1 + 1, 6, none⟩ v') (w.heap.size + 1) e zs ∧ Box (w9.setCell ⟨w.heap.size + 1 + 1, 6, none⟩ v') (w.heap.size + 1 + 1) e (richA k d v') ∧ Kept (fun _ => False) w (w9.setCell ⟨w.heap.size + 1 + 1, 6, none⟩ v') ∧ ∀ q ∈ ps ++ [p], Done8 (w.heap.size + 3) v' (w9.setCell ⟨w.heap.size + 1 + 1, 6, none⟩ v') q := by
  have K5 : Kept (fun _ => False) wr w5 := (Kept.drew (Kept.refl _ wr)).trans hk5 (fun _ _ h => h)
  have hlt := HBo.lt
  have h5 := K5.size
  have KS : Kept (fun b => b = w.heap.size + 1 + 1) w9 (w9.setCell ⟨w.heap.size + 1 + 1, 6, none⟩ v') := Kept.setCell (S := fun b => b = w.heap.size + 1 + 1) (Kept.refl _ w9) (.inl rfl) _
  have R5 := (K5.owns HR (fun _ _ h => h)).alloc o
  have g1 := box_grown8 ((K5.box HBr (fun h => h)).after_alloc o) R5 hg (by omega)
  have g2 := box_grown8 ((K5.box HBz (fun h => h)).after_alloc o) R5 hg (by omega)
  have g3 := box_grown8 ((K5.box HBo (fun h => h)).after_alloc o) R5 hg (by omega)
  have KW : Kept (fun b => vt.ownBlock = some b ∨ b = w.heap.size + 1 + 1) wr (w9.setCell ⟨w.heap.size + 1 + 1, 6, none⟩ v') :=
    (((K5.weaker (fun _ _ h => h.elim)).alloc o).grown hg (fun i hi => .inl (.inl hi))).trans KS (fun i _ h => .inr h)
  refine ⟨?_, KS.box g1 (by omega), KS.box g2 (by omega), ?_, HK.trans KW ?_, ?_⟩
  · rw [Rich.cellsP_app]
    simp only [Rich.cellsP, List.append_nil]
    exact KS.owns hown (fun i hi h => by have := (hown.lt i hi).1; omega)
  · exact g3.stored 6 v'
  · intro i hi h
    rcases h with h | h
    · have := (HR.lt i h).1; omega
    · omega
  · intro q hq
    rcases List.mem_append.1 hq with hq | hq
    · refine (HD q hq).step KW (by omega) ?_
      rcases hb with hb | hb
      · exact .inl hb
      · exact .inr ⟨_, by simp; omega, hb⟩
    · simp at hq
      subst hq
      refine ⟨w5, wr.heap.size, by omega, hv5, ((((Kept.refl _ w5)).alloc o).grown hg (fun i hi => .inl (HR.lt i hi).2)).trans KS (fun i _ h => by omega), fun g hgo => ?_⟩
      rcases hb with hb | hb
      · rw [hb] at hgo
        exact .inl (HR.lt g hgo).2
      · rw [hb] at hgo
        injection hgo with hgo
        simp at hgo
        omega
theorem copy_result {fn : Func} {p : Tmp} (h : fn.results = #[.cell p 28]) (tmps : Array Value) (W : World) (g : Nat) (cs : Array Value) (hp : tmps.getD p undef = .pointer (some ⟨g, 0, none⟩)) (hB : Box W g 28 cs) (hs : cs.size = 7) :
    (results fn tmps).run Tryd.prog W = .ok (.agg cs) W :=
  results_cell_row h tmps W g 28 cs (0, 0) _ hp hB Tryd.underlying28 rfl (by rw [hs]; kernel_rfl)
end Go.Proofs.YtbofbkndmnidpaaDoor

namespace Go.Proofs.YtbofbkndmnidpaaDoor
open Go.RowKit Rich

set_option maxRecDepth 100000 in
set_option maxHeartbeats 8000000 in
theorem copyR9_walk : ∀ (x : R) (v : Value) (w : World), RichS w x v → count x ≤ 2000 →
    Calls Tryd.prog 39 #[v] w fun e w' => (∃ v', e = .returned v' ∧ RichN w.heap.size w' x v' ∧ ∃ vt ps, v' = richV x.kind x.dep vt ∧ ps.map Prod.fst = x.args ∧ w'.ownsRow (w.heap.size + 3) 28 7 vt x.args.length (Rich.cellsP ps) ∧ ∀ p ∈ ps, Done8 (w.heap.size + 3) vt w' p) ∧ Kept (fun _ => False) w w' := by
  refine R.ind fun k d l ih v w hr hc => ?_
  rw [RichS] at hr
  obtain ⟨ao, cp, rfl, hk, ho, hA⟩ := hr
  obtain ⟨i0, hi, hz0, hz1, hz2⟩ := info_parts info_rich8
  have hll := counts_len l
  rw [count] at hc
  have hlI : l.length ≤ 2000 := by omega
  have HC := Lib.hid (show counts l ≤ 2000 by omega)
  have HA := Lib.hid hA
  have HI := Lib.hid ih
  have HKO := Lib.hid (And.intro hk ho)
  clear hA ih hc hll hk ho
  go_enter Tryd.func39, Tryd.ntmps39
  go_wp2_with fail
  have HB0 := Lib.hid (show Box (((w.alloc (.cells (richA k d (.slice ao l.length cp)) 28)).alloc (.cells #[.int .u8 0, .string ⟨#[]⟩, .int .u8 0, .int .i64 0, .string ⟨#[]⟩, .string ⟨#[]⟩, .slice none 0 0] 28)).alloc (.cells (richA k d (.slice none 0 0)) 28)) w.heap.size 28 (richA k d (.slice ao l.length cp)) from ((Box.made w 28 (richA k d (.slice ao l.length cp))).after_alloc _).after_alloc _)
  have HBz0 := Lib.hid (show Box (((w.alloc (.cells (richA k d (.slice ao l.length cp)) 28)).alloc (.cells #[.int .u8 0, .string ⟨#[]⟩, .int .u8 0, .int .i64 0, .string ⟨#[]⟩, .string ⟨#[]⟩, .slice none 0 0] 28)).alloc (.cells (richA k d (.slice none 0 0)) 28)) (w.heap.size + 1) 28 #[.int .u8 0, .string ⟨#[]⟩, .int .u8 0, .int .i64 0, .string ⟨#[]⟩, .string ⟨#[]⟩, .slice none 0 0] from by
    have h := (Box.made (w.alloc (.cells (richA k d (.slice ao l.length cp)) 28)) 28 #[.int .u8 0, .string ⟨#[]⟩, .int .u8 0, .int .i64 0, .string ⟨#[]⟩, .string ⟨#[]⟩, .slice none 0 0]).after_alloc (.cells (richA k d (.slice none 0 0)) 28)
    rw [World.size_alloc] at h
    exact h)
  have HBo0 := Lib.hid (show Box (((w.alloc (.cells (richA k d (.slice ao l.length cp)) 28)).alloc (.cells #[.int .u8 0, .string ⟨#[]⟩, .int .u8 0, .int .i64 0, .string ⟨#[]⟩, .string ⟨#[]⟩, .slice none 0 0] 28)).alloc (.cells (richA k d (.slice none 0 0)) 28)) (w.heap.size + 1 + 1) 28 (richA k d (.slice none 0 0)) from by
    have h := Box.made ((w.alloc (.cells (richA k d (.slice ao l.length cp)) 28)).alloc (.cells #[.int .u8 0, .string ⟨#[]⟩, .int .u8 0, .int .i64 0, .string ⟨#[]⟩, .string ⟨#[]⟩, .slice none 0 0] 28)) 28 (richA k d (.slice none 0 0))
    rw [World.size_alloc, World.size_alloc] at h
    exact h)
  have HK0 := Lib.hid (show Kept (fun _ => False) w (((w.alloc (.cells (richA k d (.slice ao l.length cp)) 28)).alloc (.cells #[.int .u8 0, .string ⟨#[]⟩, .int .u8 0, .int .i64 0, .string ⟨#[]⟩, .string ⟨#[]⟩, .slice none 0 0] 28)).alloc (.cells (richA k d (.slice none 0 0)) 28)) from (((Kept.refl _ w).alloc _).alloc _).alloc _)
  generalize (((w.alloc (.cells (richA k d (.slice ao l.length cp)) 28)).alloc (.cells #[.int .u8 0, .string ⟨#[]⟩, .int .u8 0, .int .i64 0, .string ⟨#[]⟩, .string ⟨#[]⟩, .slice none 0 0] 28)).alloc (.cells (richA k d (.slice none 0 0)) 28)) = W3 at *
  go_loopw [4] (fun v4 wr => ∃ (i : Nat) (vt : Value) (ps : List Pc), v4 = .int .i64 (i : Int) ∧ i ≤ l.length ∧ Hid (ps.map Prod.fst = l.take i) ∧ Hid (wr.ownsRow (w.heap.size + 3) 28 7 vt i (Rich.cellsP ps)) ∧ Hid (Box wr w.heap.size 28 (richA k d (.slice ao l.length cp))) ∧ Hid (Box wr (w.heap.size + 1) 28 #[.int .u8 0, .string ⟨#[]⟩, .int .u8 0, .int .i64 0, .string ⟨#[]⟩, .string ⟨#[]⟩, .slice none 0 0]) ∧ Hid (Box wr (w.heap.size + 1 + 1) 28 (richA k d vt)) ∧ Hid (Kept (fun _ => False) w wr) ∧ Hid (∀ p ∈ ps, Done8 (w.heap.size + 3) vt wr p)) (fun v4 _ => l.length - (intOf v4).toNat)
  case atStart => exact ⟨0, .slice none 0 0, [], rfl, Nat.zero_le _, Lib.hid (by simp), Lib.hid (World.ownsRow_nil _ _ _ _), HB0, HBz0, HBo0, HK0, Lib.hid (by simp)⟩
  case round =>
    obtain ⟨i, vt, ps, rfl, hi', HP, HR, HBr, HBz, HBo, HK, HD⟩ := hrel
    rename World => wr
    obtain ⟨a3, c3, e3⟩ := own_form HR.out
    subst e3
    have b6 := HBr.out.cell 6
    have o6 := HBo.out.cell 6
    by_cases hlt : i < l.length
    · obtain ⟨x, hx⟩ : ∃ x, l[i]? = some x := ⟨_, List.getElem?_eq_getElem hlt⟩
      obtain ⟨b, off, ao', cp', rfl, hb, hrx, h0, h1, h2, h3, h4, h5, h6⟩ := HA.out.part hx
      have hxm := List.mem_of_getElem? hx
      have hcx : count x ≤ 2000 := by
        have := counts_take hx
        have := counts_take_le l (i + 1)
        have := HC.out
        omega
      have PC := fun W (hk : Kept (fun _ => False) w W) => HI.out x hxm _ W (RichS.kept hk x _ hrx) hcx
      have HPx := Lib.hid (show l.take (i + 1) = l.take i ++ [x] by rw [List.take_add_one, hx]; rfl)
      have d0 := (HK.out.cell (p := ⟨b, off + i * 7, none⟩) hb (fun h => h)).trans h0
      have d1 := (HK.out.cell (p := ⟨b, off + i * 7 + 1, none⟩) hb (fun h => h)).trans h1
      have d2 := (HK.out.cell (p := ⟨b, off + i * 7 + 2, none⟩) hb (fun h => h)).trans h2
      have d3 := (HK.out.cell (p := ⟨b, off + i * 7 + 3, none⟩) hb (fun h => h)).trans h3
      have d4 := (HK.out.cell (p := ⟨b, off + i * 7 + 4, none⟩) hb (fun h => h)).trans h4
      have d5 := (HK.out.cell (p := ⟨b, off + i * 7 + 5, none⟩) hb (fun h => h)).trans h5
      have d6 := (HK.out.cell (p := ⟨b, off + i * 7 + 6, none⟩) hb (fun h => h)).trans h6
      have hi0 : (0 : Int) ≤ (i : Int) := by omega
      have hiI : (i : Int) < (l.length : Int) := by omega
      obtain ⟨kx, dx, lx⟩ := x
      clear hx hrx h0 h1 h2 h3 h4 h5 h6 hxm hcx
      go_wp2_with fail
      go_region_law ((first
        | (rw [if_pos (by rfl)]
           refine wp_append_own8 (.tmp 18) (.tmp 25) 26 rfl (w.heap.size + 3) 28 i0 _ 7 96 Tryd.underlying26 hi hz0 hz1 hz2 rfl (by decide) _ _ _ rfl (HR5.out.alloc _) ⟨w5.heap.size, 0, none⟩ 1 1 (arrP (.mk kx dx lx, ao5, cp5)).toList rfl rfl (one_rich8 _ _ _) (by intro u hu; simp at hu; rcases hu with h | h | h | h | h | h | h <;> (rw [h]; rfl)) (by unfold maxLen; omega) (by omega) (by have := HBo5.out.lt; simp; omega) ?_
           intro v' w9 hown9 hgrow9 hblk9
           obtain ⟨a9, c9, e9⟩ := own_form hown9
           subst e9
           have HBo9 := box_grown8 (HBo5.out.after_alloc _) (HR5.out.alloc _) hgrow9 (by omega)
           have o69 := HBo9.cell 6
           have f69 := HBo9.free 6
           have HRD := Lib.hid (copy_round8 (p := (.mk kx dx lx, ao5, cp5)) HR.out HBr.out HBz.out HBo.out HK.out HD.out HK5.out HN5.out hown9 hgrow9 hblk9)
           clear hown9 hgrow9 hblk9 HBo9)
        | (go_simp; go_at_call 39; refine (PC _ (by repeat' (first | exact HK.out | refine Kept.drewN ?_ _ | refine Kept.drew ?_))).mono ?_; rintro e w5 ⟨⟨v5, rfl, hv5, _⟩, hk5⟩; have q5 := hv5.here; rw [RichS] at q5; obtain ⟨ao5, cp5, rfl, _⟩ := q5; have K5 := Lib.hid ((Kept.drew (Kept.refl (fun _ => False) wr)).trans hk5 (fun _ _ h => h)); have HR5 := Lib.hid (K5.out.owns HR.out (fun _ _ h => h)); have HBo5 := Lib.hid (K5.out.box HBo.out (fun h => h)); have o65 := HBo5.out.cell 6; have o66 := fun ob => (HBo5.out.after_alloc ob).cell 6; have HN5 := Lib.hid hv5; have HK5 := Lib.hid hk5; clear hv5 hk5)
        | fail))
      all_goals go_wp2_with fail
      all_goals go_roundw
      all_goals first
        | (obtain ⟨r1, r2, r3, r4, r5, r6⟩ := HRD.out
           exact ⟨i + 1, _, ps ++ [(.mk kx dx lx, ao5, cp5)], by go_num, by omega, Lib.hid (by rw [HPx.out, List.map_append, HP.out]; rfl), Lib.hid r1, Lib.hid r2, Lib.hid r3, Lib.hid r4, Lib.hid r5, Lib.hid r6⟩)
        | (simp [intOf]; omega)
    · obtain rfl : i = l.length := by omega
      have hge : ¬ (l.length : Int) < (l.length : Int) := by omega
      have z0 := HBz.out.cell 0; have z1 := HBz.out.cell 1; have z2 := HBz.out.cell 2; have z3 := HBz.out.cell 3; have z4 := HBz.out.cell 4; have z5 := HBz.out.cell 5; have z6 := HBz.out.cell 6
      have y0 := HBz.out.free 0; have y1 := HBz.out.free 1; have y2 := HBz.out.free 2; have y3 := HBz.out.free 3; have y4 := HBz.out.free 4; have y5 := HBz.out.free 5; have y6 := HBz.out.free 6
      have o0 := HBo.out.cell 0; have o1 := HBo.out.cell 1; have o2 := HBo.out.cell 2; have o3 := HBo.out.cell 3; have o4 := HBo.out.cell 4; have o5 := HBo.out.cell 5
      go_wp2_with fail
      have hb7 := ((((((HBz.out.stored 0 (.int .u8 (k : Int))).stored 1 (.string ⟨d.name.toArray⟩)).stored 2 (.int .u8 (d.op : Int))).stored 3 (.int .i64 d.evr.epoch)).stored 4 (.string ⟨d.evr.ver.toArray⟩)).stored 5 (.string ⟨d.evr.rel.toArray⟩)).stored 6 (.slice a3 l.length c3)
      have hk7 := ((((((Kept.setCell (S := fun b => b = w.heap.size + 1) (Kept.refl _ wr) (p := ⟨w.heap.size + 1, 0, none⟩) (.inl rfl) (.int .u8 (k : Int))).setCell (p := ⟨w.heap.size + 1, 1, none⟩) (.inl rfl) (.string ⟨d.name.toArray⟩)).setCell (p := ⟨w.heap.size + 1, 2, none⟩) (.inl rfl) (.int .u8 (d.op : Int))).setCell (p := ⟨w.heap.size + 1, 3, none⟩) (.inl rfl) (.int .i64 d.evr.epoch)).setCell (p := ⟨w.heap.size + 1, 4, none⟩) (.inl rfl) (.string ⟨d.evr.ver.toArray⟩)).setCell (p := ⟨w.heap.size + 1, 5, none⟩) (.inl rfl) (.string ⟨d.evr.rel.toArray⟩)).setCell (p := ⟨w.heap.size + 1, 6, none⟩) (.inl rfl) (.slice a3 l.length c3)
      have hp : ps.map Prod.fst = l := by rw [HP.out, List.take_length]
      have hN : RichN (w.heap.size + 2) wr (.mk k d l) (richV k d (.slice a3 l.length c3)) := rich_made (by omega) HKO.out.1 HKO.out.2 hp HR.out HD.out
      exact bodyPost_ret (copy_result rfl _ _ (w.heap.size + 1) _ rfl hb7 rfl) rfl ⟨⟨_, rfl, fun W' hW => hN W' ((hk7.weaker (fun i _ h => by omega)).trans hW (fun i _ h => by omega)), _, rfl, ps, hp, hk7.owns HR.out (fun i hi h => by have := (HR.out.lt i hi).1; omega), fun q1 q2 q3 hq => (HD.out (q1, q2, q3) hq).step (o := w.heap.size + 1) (hk7.weaker (fun i _ h => .inr h)) (by omega) (.inl rfl)⟩, HK.out.trans hk7 (fun i hi h => by omega)⟩
end Go.Proofs.YtbofbkndmnidpaaDoor
