/-
  Copies of rich dependencies in memory: which hold whatever becomes of older blocks. Nothing of the program is named here but its types. A literal row of rich dependencies, and what is made of it. Nothing of the program is named here but its types. What the slots of a region hold that draws its order: literals, rich dependencies, slices of these in new memory. Nothing of the program is named here but its types. Conditions: as each theorem states.
-/
import Derived.Test.YtndakcognjaeoaaDoorK04
import Derived.Test.YtndakcognjaeoaaDoorK11
namespace Go.Proofs.YtndakcognjaeoaaDoor
open Go.RowKit
namespace Rich

/-- Reads so, whatever becomes of the blocks below base. -/
def RichN (base : Nat) (w : World) (x : R) (v : Value) : Prop := ∀ W, Kept (fun b => b < base) w W → RichS W x v
theorem RichN.here {base : Nat} {w : World} {x : R} {v : Value} (h : RichN base w x v) : RichS w x v := h w (Kept.refl _ _)
abbrev Pc := R × Option Addr × Nat
abbrev arrP (p : Pc) : Array Value := richA p.1.kind p.1.dep (.slice p.2.1 p.1.args.length p.2.2)
abbrev valP (p : Pc) : Value := .agg (arrP p)
def cellsP : List Pc → List Value
  | [] => []
  | p :: l => (arrP p).toList ++ cellsP l
theorem cellsP_app : ∀ a b : List Pc, cellsP (a ++ b) = cellsP a ++ cellsP b
  | [], _ => rfl
  | p :: a, b => by simp [cellsP, cellsP_app a b]
theorem cellsP_len : ∀ a : List Pc, (cellsP a).length = a.length * 7
  | [] => rfl
  | p :: a => by simp [cellsP, cellsP_len a]; omega
theorem cellsP_one : ∀ a : List Pc, ∀ u ∈ cellsP a, u.oneCell' = true
  | [], u, h => by simp [cellsP] at h
  | p :: a, u, h => by
    simp only [cellsP, List.mem_append] at h
    rcases h with h | h
    · simp at h
      rcases h with h | h | h | h | h | h | h <;> (rw [h]; rfl)
    · exact cellsP_one a u h
theorem cellsP_at : ∀ (l : List Pc) (i : Nat) (p : Pc), l[i]? = some p → ∀ (j : Nat) u, (arrP p).toList[j]? = some u → (cellsP l)[i * 7 + j]? = some u
  | [], _, _, h, _, _, _ => by simp at h
  | e :: l, 0, p, h, j, u, hu => by
    injection h with h
    subst h
    have hj : j < (arrP e).toList.length := (List.getElem?_eq_some_iff.1 hu).1
    rw [cellsP, Nat.zero_mul, Nat.zero_add, List.getElem?_append_left hj]
    exact hu
  | e :: l, i + 1, p, h, j, u, hu => by
    have := cellsP_at l i p (by simpa using h) j u hu
    have e0 : (i + 1) * 7 + j = (arrP e).toList.length + (i * 7 + j) := by simp; omega
    rw [cellsP, e0, List.getElem?_append_right (by omega), Nat.add_sub_cancel_left]
    exact this
/-- A part that was copied: it holds whatever becomes of what lies below its world, and what came of the world since is of that sort. -/
def Done8 (B : Nat) (vt : Value) (wr : World) (p : Pc) : Prop := ∃ wj bj, B ≤ bj ∧ RichN bj wj p.1 (valP p) ∧ Kept (fun b => b < bj) wj wr ∧ ∀ g, vt.ownBlock = some g → g < bj ∨ wj.heap.size ≤ g
theorem Done8.step {B o : Nat} {vt vt' : Value} {wr w' : World} {p : Pc} (h : Done8 B vt wr p) (hk : Kept (fun b => vt.ownBlock = some b ∨ b = o) wr w') (ho : o < B) (hv : vt'.ownBlock = vt.ownBlock ∨ ∃ n, wr.heap.size ≤ n ∧ vt'.ownBlock = some n) : Done8 B vt' w' p := by
  obtain ⟨wj, bj, h1, h2, h3, h4⟩ := h
  refine ⟨wj, bj, h1, h2, h3.trans hk fun i hi hs => ?_, fun g hg => ?_⟩
  · rcases hs with hs | hs
    · rcases h4 i hs with h | h
      · exact h
      · omega
    · omega
  · rcases hv with hv | ⟨n, hn, hv⟩
    · exact h4 g (by rw [← hv]; exact hg)
    · rw [hv] at hg
      injection hg with hg
      have := h3.size
      omega
/-- A row of copied parts reads as the whole. -/
theorem rich_made {B w0 k : Nat} {d : Dep.D} {l : List R} {ps : List Pc} {vt : Value} {wr : World} {e : TypeId} (hB : w0 ≤ B) (hk : k < 256) (hd : d.op < 256) (hp : ps.map Prod.fst = l) (ho : wr.ownsRow B e 7 vt l.length (cellsP ps)) (hD : ∀ p ∈ ps, Done8 B vt wr p) :
    RichN w0 wr (.mk k d l) (richV k d vt) := by
  intro W hW
  have hl : ps.length = l.length := by rw [← hp]; simp
  have ho' := hW.owns ho (fun i hi h => by have := (ho.lt i hi).1; omega)
  rw [RichS]
  rcases ho'.2 with ⟨hv, hn⟩ | ⟨g, cap, cur, rfl, hg, hh, _⟩
  · have : l = [] := List.eq_nil_of_length_eq_zero hn
    subst this
    exact ⟨none, 0, by rw [hv]; rfl, hk, hd, by rw [ArgS]; trivial⟩
  · refine ⟨some ⟨g, 0, none⟩, cap, rfl, hk, hd, ArgS.of fun i x hx => ?_⟩
    rw [← hp, List.getElem?_map] at hx
    obtain ⟨p, h1, rfl⟩ := Option.map_eq_some_iff.1 hx
    obtain ⟨wj, bj, g1, g2, g3, _⟩ := hD p (List.mem_of_getElem? h1)
    have hc := cellsP_at ps i p h1
    refine ⟨g, 0, valP p, rfl, ?_, g2 W (g3.trans hW fun i _ h => by omega), fun j u hj => ?_⟩
    · have := Array.getElem?_eq_some_iff.1 hh
      exact this.1
    · have := (own_cell ho' (hc j u hj)).1
      rw [show 0 + (0 + i) * 7 + j = i * 7 + j by omega]
      exact this
end Rich
end Go.Proofs.YtndakcognjaeoaaDoor

namespace Go.Proofs.YtndakcognjaeoaaDoor
open Go.RowKit Rich

/-- A row of parts as it lies there reads as the whole. -/
theorem rich_lit {W : World} {g k : Nat} {e : TypeId} {d : Dep.D} (ps : List Pc) (hb : Box W g e (cellsP ps).toArray) (hk : k < 256) (hd : d.op < 256) (hp : ∀ p ∈ ps, RichS W p.1 (valP p)) :
    RichS W (.mk k d (ps.map Prod.fst)) (richV k d (.slice (some ⟨g, 0, none⟩) ps.length ps.length)) := by
  rw [RichS]
  refine ⟨some ⟨g, 0, none⟩, ps.length, by rw [List.length_map], hk, hd, ArgS.of fun i x hx => ?_⟩
  rw [List.getElem?_map] at hx
  obtain ⟨p, h1, rfl⟩ := Option.map_eq_some_iff.1 hx
  refine ⟨g, 0, valP p, rfl, hb.lt, hp p (List.mem_of_getElem? h1), fun j u hj => ?_⟩
  have := cellsP_at ps i p h1 j u hj
  rw [show 0 + (0 + i) * 7 + j = i * 7 + j by omega, hb.cell]
  simpa using this
end Go.Proofs.YtndakcognjaeoaaDoor

namespace Go.Proofs.YtndakcognjaeoaaDoor
open Go.RowKit Rich

/-- A slice in new memory that reads as these. -/
def SlR (w : World) (l : List R) (v : Value) : Prop := ∃ g ps, v = .slice (some ⟨g, 0, none⟩) ps.length ps.length ∧ Box w g 29 (cellsP ps).toArray ∧ ps.map Prod.fst = l ∧ ∀ p ∈ ps, RichS w p.1 (valP p)
theorem SlR.kept {w w' : World} {l : List R} {v : Value} (h : SlR w l v) (hk : Kept (fun _ => False) w w') : SlR w' l v := by
  obtain ⟨g, ps, h1, h2, h3, h4⟩ := h
  exact ⟨g, ps, h1, hk.box h2 (fun h => h), h3, fun p hp => RichS.kept hk _ _ (h4 p hp)⟩
theorem SlR.rich {w : World} {l : List R} {v : Value} (h : SlR w l v) {k : Nat} {d : Dep.D} (hk : k < 256) (hd : d.op < 256) : RichS w (.mk k d l) (richV k d v) := by
  obtain ⟨g, ps, rfl, h2, rfl, h4⟩ := h
  exact rich_lit ps h2 hk hd h4
/-- What a slot of a region holds. -/
inductive KdN where
  | rich (x : R)
  | slice (l : List R)
  | lit (v : Value)
def KdS : KdN → World → Value → Prop
  | .rich x, w, v => RichS w x v
  | .slice l, w, v => SlR w l v
  | .lit u, _, v => v = u
theorem KdS.kept : ∀ (k : KdN) {w w' : World} {v : Value}, Kept (fun _ => False) w w' → KdS k w v → KdS k w' v
  | .rich x, _, _, _, hk, h => RichS.kept hk x _ h
  | .slice _, _, _, _, hk, h => SlR.kept h hk
  | .lit _, _, _, _, _, h => h
def SN (tbl : List KdN) (j : Nat) (w : World) (v : Value) : Prop := match tbl[j]? with
  | some k => KdS k w v
  | none => True
theorem SN.kept (tbl : List KdN) (j : Nat) (w w' : World) (v : Value) (hk : Kept (fun _ => False) w w') (h : SN tbl j w v) : SN tbl j w' v := by
  unfold SN at h ⊢
  cases hj : tbl[j]? with
  | none => trivial
  | some k => rw [hj] at h; exact KdS.kept k hk h
theorem SN.mkLit {tbl : List KdN} {j : Nat} {w : World} {u : Value} (h : tbl[j]? = some (.lit u)) : SN tbl j w u := by unfold SN; rw [h]; rfl
theorem SN.mkRich {tbl : List KdN} {j : Nat} {w : World} {v : Value} {x : R} (h : tbl[j]? = some (.rich x)) (hr : RichS w x v) : SN tbl j w v := by unfold SN; rw [h]; exact hr
theorem SN.mkSl {tbl : List KdN} {j : Nat} {w : World} {v : Value} {l : List R} (h : tbl[j]? = some (.slice l)) (hr : SlR w l v) : SN tbl j w v := by unfold SN; rw [h]; exact hr
theorem SN.lit {tbl : List KdN} {j : Nat} {w : World} {v u : Value} (h : tbl[j]? = some (.lit u)) (hs : SN tbl j w v) : v = u := by unfold SN at hs; rw [h] at hs; exact hs
theorem SN.rich {tbl : List KdN} {j : Nat} {w : World} {v : Value} {x : R} (h : tbl[j]? = some (.rich x)) (hs : SN tbl j w v) : RichS w x v := by unfold SN at hs; rw [h] at hs; exact hs
theorem SN.sl {tbl : List KdN} {j : Nat} {w : World} {v : Value} {l : List R} (h : tbl[j]? = some (.slice l)) (hs : SN tbl j w v) : SlR w l v := by unfold SN at hs; rw [h] at hs; exact hs
theorem richS_nil {W : World} {k : Nat} {d : Dep.D} (hk : k < 256) (hd : d.op < 256) : RichS W (.mk k d []) (richV k d (.slice none 0 0)) := by
  rw [RichS]
  exact ⟨none, 0, rfl, hk, hd, by rw [ArgS]; trivial⟩
theorem rich_form {W : World} {k : Nat} {d : Dep.D} {l : List R} {v : Value} (h : RichS W (.mk k d l) v) : ∃ ao cp, v = richV k d (.slice ao l.length cp) := by
  rw [RichS] at h
  obtain ⟨ao, cp, h1, _⟩ := h
  exact ⟨ao, cp, h1⟩
theorem sl_new {W : World} {g : Nat} (ps : List Pc) (hg : g = W.heap.size) (h : ∀ p ∈ ps, RichS W p.1 (valP p)) : SlR (W.alloc (.cells (cellsP ps).toArray 29)) (ps.map Prod.fst) (.slice (some ⟨g, 0, none⟩) ps.length ps.length) := by
  subst hg
  exact ⟨W.heap.size, ps, rfl, Box.made W 29 _, rfl, fun p hp => RichS.kept ((Kept.refl (fun _ => False) W).alloc _) _ _ (h p hp)⟩
end Go.Proofs.YtndakcognjaeoaaDoor
