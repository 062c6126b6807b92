/-
  A rich dependency as it lies there, with what is asked of each block that its parts lie in (layer 10). Elements of a growing row of one's own, each in blocks that the row is not in (layer 10). Rows of rich dependencies as an append reads and writes them (layer 10). The walk over the document's All (layer 10). A region that draws its order, in the body of a loop over an iterator, operation by operation: XInvReg's law there. Nothing of the program is named here. Conditions: as each theorem states.
-/
import Derived.Test.YtlpalepkomkngaaGreatDoorK36
import Derived.Test.YtlpalepkomkngaaGreatDoorK09
import Derived.Test.YtlpalepkomkngaaGreatDoorK08
import Derived.Test.YtlpalepkomkngaaGreatDoorK22
namespace Go.Proofs.YtlpalepkomkngaaGreatDoor
open Go.RowKit Ver Evr Span Dep Rich

mutual
/-- The value reads as this rich dependency, out of blocks of P alone. -/
def RichB (P : Nat → Prop) (w : World) : R → Value → Prop
  | .mk k d l, v => ∃ ao cp, v = richV k d (.slice ao l.length cp) ∧ k < 256 ∧ d.op < 256 ∧ ArgB P w ao 0 l
def ArgB (P : Nat → Prop) (w : World) (ao : Option Addr) : Nat → List R → Prop
  | _, [] => True
  | i, x :: l => (∃ b off v, ao = some ⟨b, off, none⟩ ∧ P b ∧ b < w.heap.size ∧ RichB P w x v ∧ ∀ (j : Nat) u, v.cells.toList[j]? = some u → w.cell? ⟨b, off + i * 7 + j, none⟩ = some u) ∧ ArgB P w ao (i + 1) l
end
mutual
theorem RichB.here {P : Nat → Prop} {w : World} : ∀ (x : R) (v : Value), RichB P w x v → RichS w x v
  | .mk k d l, v, h => by
    rw [RichB] at h
    rw [RichS]
    obtain ⟨ao, cp, h1, h2, h3, h4⟩ := h
    exact ⟨ao, cp, h1, h2, h3, ArgB.here ao 0 l h4⟩
theorem ArgB.here {P : Nat → Prop} {w : World} (ao : Option Addr) : ∀ (i : Nat) (l : List R), ArgB P w ao i l → ArgS w ao i l
  | _, [], _ => by rw [ArgS]; trivial
  | i, x :: l, h => by
    rw [ArgB] at h
    rw [ArgS]
    obtain ⟨⟨b, off, v, h1, _, h2, h3, h4⟩, h5⟩ := h
    exact ⟨⟨b, off, v, h1, h2, RichB.here x v h3, h4⟩, ArgB.here ao (i + 1) l h5⟩
end
mutual
/-- What keeps the cells of these blocks keeps what lies there; each may be asked of something else that follows. -/
theorem RichB.on {P Q : Nat → Prop} {w w' : World} (hs : w.heap.size ≤ w'.heap.size) (hc : ∀ b o u, P b → b < w.heap.size → w.cell? ⟨b, o, none⟩ = some u → w'.cell? ⟨b, o, none⟩ = some u) (hPQ : ∀ b, P b → b < w.heap.size → Q b) : ∀ (x : R) (v : Value), RichB P w x v → RichB Q w' x v
  | .mk k d l, v, h => by
    rw [RichB] at h ⊢
    obtain ⟨ao, cp, h1, h2, h3, h4⟩ := h
    exact ⟨ao, cp, h1, h2, h3, ArgB.on hs hc hPQ ao 0 l h4⟩
theorem ArgB.on {P Q : Nat → Prop} {w w' : World} (hs : w.heap.size ≤ w'.heap.size) (hc : ∀ b o u, P b → b < w.heap.size → w.cell? ⟨b, o, none⟩ = some u → w'.cell? ⟨b, o, none⟩ = some u) (hPQ : ∀ b, P b → b < w.heap.size → Q b) (ao : Option Addr) : ∀ (i : Nat) (l : List R), ArgB P w ao i l → ArgB Q w' ao i l
  | _, [], _ => by rw [ArgB]; trivial
  | i, x :: l, h => by
    rw [ArgB] at h ⊢
    obtain ⟨⟨b, off, v, h1, h0, h2, h3, h4⟩, h5⟩ := h
    exact ⟨⟨b, off, v, h1, hPQ b h0 h2, Nat.lt_of_lt_of_le h2 hs, RichB.on hs hc hPQ x v h3, fun j u hj => hc b _ u h0 h2 (h4 j u hj)⟩, ArgB.on hs hc hPQ ao (i + 1) l h5⟩
end
theorem ArgB.of {P : Nat → Prop} {w : World} {ao : Option Addr} : ∀ {l : List R} {i0 : Nat}, (∀ (i : Nat) x, l[i]? = some x → ∃ b off v, ao = some ⟨b, off, none⟩ ∧ P b ∧ b < w.heap.size ∧ RichB P w x v ∧ ∀ (j : Nat) u, v.cells.toList[j]? = some u → w.cell? ⟨b, off + (i0 + i) * 7 + j, none⟩ = some u) → ArgB P w ao i0 l
  | [], _, _ => by rw [ArgB]; trivial
  | y :: l, i0, h => by
    rw [ArgB]
    refine ⟨h 0 y rfl, ArgB.of fun i x hx => ?_⟩
    have := h (i + 1) x (by simpa using hx)
    rw [show i0 + 1 + i = i0 + (i + 1) by omega]
    exact this
/-- A world in which one block is none that has cells. -/
theorem kept_putObj10 {base b : Nat} (w : World) (hb : b < base) : Kept (fun i => i < base) w (w.putObj b (.deferred none)) :=
  ⟨rfl, rfl, rfl, by simp [World.putObj], fun i hi hS => by rw [World.putObj_heap_other (fun e => hS (by rw [e]; exact hb))]⟩
theorem cell_putObj10 (w : World) (b o : Nat) (hb : b < w.heap.size) : (w.putObj b (.deferred none)).cell? ⟨b, o, none⟩ = none := by
  simp [World.cell?, World.putObj, hb]
/-- What reads so whatever becomes of the blocks below base lies above base. -/
theorem RichN.blk {base : Nat} {w : World} : ∀ (x : R) (v : Value), RichN base w x v → RichB (fun b => base ≤ b) w x v := by
  refine R.ind fun k d l ih v h => ?_
  have h0 := h.here
  rw [RichS] at h0
  obtain ⟨ao, cp, rfl, hk, hd, hA⟩ := h0
  rw [RichB]
  refine ⟨ao, cp, rfl, hk, hd, ArgB.of fun i y hy => ?_⟩
  obtain ⟨b, off, ap, cq, rfl, hb, hr, d0, d1, d2, d3, d4, d5, d6⟩ := hA.part hy
  have hge : base ≤ b := by
    refine Classical.byContradiction fun hn => ?_
    have h1 := h _ (kept_putObj10 w (b := b) (by omega))
    rw [RichS] at h1
    obtain ⟨ao2, cp2, e2, _, _, hA2⟩ := h1
    have e3 : (Value.slice (some ⟨b, off, none⟩) l.length cp) = .slice ao2 l.length cp2 := by
      injection e2 with e2
      exact Option.some.inj (congrArg (fun a : Array Value => a[6]?) e2)
    injection e3 with e3 _ _
    subst e3
    obtain ⟨b2, off2, ap2, cq2, e4, _, _, f0, _⟩ := hA2.part hy
    injection e4 with e4
    injection e4 with e4 e5
    subst e4
    rw [cell_putObj10 w b _ hb] at f0
    cases f0
  have hN : RichN base w y (richV y.kind y.dep (.slice ap y.args.length cq)) := by
    intro W hW
    have h1 := h W hW
    rw [RichS] at h1
    obtain ⟨ao2, cp2, e2, _, _, hA2⟩ := h1
    have e3 : (Value.slice (some ⟨b, off, none⟩) l.length cp) = .slice ao2 l.length cp2 := by
      injection e2 with e2
      exact Option.some.inj (congrArg (fun a : Array Value => a[6]?) e2)
    injection e3 with e3 _ _
    subst e3
    obtain ⟨b2, off2, ap2, cq2, e4, _, hr2, _, _, _, _, _, _, f6⟩ := hA2.part hy
    injection e4 with e4
    injection e4 with e4 e5
    subst e4 e5
    have h6 := (hW.cell (p := ⟨b, off + i * 7 + 6, none⟩) hb (fun h => by have h8 : b < base := h; omega)).trans d6
    rw [f6] at h6
    injection h6 with h6
    injection h6 with h6 _ h7
    subst h6 h7
    exact hr2
  refine ⟨b, off, richV y.kind y.dep (.slice ap y.args.length cq), rfl, hge, hb, ih y (List.mem_of_getElem? hy) _ hN, fun j u hj => ?_⟩
  rw [Nat.zero_add]
  match j, hj with
  | 0, hj => (cases hj; exact d0)
  | 1, hj => (cases hj; exact d1)
  | 2, hj => (cases hj; exact d2)
  | 3, hj => (cases hj; exact d3)
  | 4, hj => (cases hj; exact d4)
  | 5, hj => (cases hj; exact d5)
  | 6, hj => (cases hj; exact d6)
  | j + 7, hj => cases hj
end Go.Proofs.YtlpalepkomkngaaGreatDoor

namespace Go.Proofs.YtlpalepkomkngaaGreatDoor
open Go.RowKit Ver Evr Span Dep Rich

/-- An element of the row v: it lies in blocks from B on that are not v's, and its Args are a row of their own there. -/
def ElB (B : Nat) (v : Value) (w : World) (p : Pc) : Prop :=
  RichB (fun b => B ≤ b ∧ v.ownBlock ≠ some b) w p.1 (valP p) ∧ ∃ (b5 : Nat) (ps5 : List Pc), B ≤ b5 ∧ w.ownsRow b5 39 7 (.slice p.2.1 p.1.args.length p.2.2) p.1.args.length (Rich.cellsP ps5) ∧ ∀ b, (Value.slice p.2.1 p.1.args.length p.2.2).ownBlock = some b → v.ownBlock ≠ some b
theorem owns_of10 {w w' : World} {base size n : Nat} {e : TypeId} {v : Value} {xs : List Value} (h : w.ownsRow base e size v n xs) (hc : ∀ g, v.ownBlock = some g → w'.heap[g]? = w.heap[g]?) : w'.ownsRow base e size v n xs := by
  refine ⟨h.1, ?_⟩
  rcases h.2 with h2 | ⟨g, cap, cur, h1, h2, h3, h4⟩
  · exact .inl h2
  · exact .inr ⟨g, cap, cur, h1, h2, (hc g (by rw [h1]; rfl)).trans h3, h4⟩
theorem cell_of10 {w w' : World} {b o : Nat} {u : Value} (h : w.cell? ⟨b, o, none⟩ = some u) (hb : w'.heap[b]? = w.heap[b]?) : w'.cell? ⟨b, o, none⟩ = some u := by
  rw [← h]
  simp [World.cell?, hb]
theorem ElB.kept {B : Nat} {v : Value} {w w' : World} {p : Pc} (h : ElB B v w p) (hk : Kept (fun _ => False) w w') : ElB B v w' p := by
  obtain ⟨h1, b5, ps5, h2, h3, h4⟩ := h
  exact ⟨RichB.on hk.size (fun b o u _ hb hc => (hk.cell (p := ⟨b, o, none⟩) hb (fun h => h)).trans hc) (fun _ h _ => h) _ _ h1, b5, ps5, h2, hk.owns h3 (fun _ _ h => h), h4⟩
/-- Behind an append onto the row. -/
theorem ElB.grown {B : Nat} {v v' : Value} {w w' : World} {p : Pc} (h : ElB B v w p) (hg : w.grownBy w' v.ownBlock) (hv : v'.ownBlock = v.ownBlock ∨ v'.ownBlock = some w.heap.size) : ElB B v' w' p := by
  obtain ⟨h1, b5, ps5, h2, h3, h4⟩ := h
  have key : ∀ b, v.ownBlock ≠ some b → b < w.heap.size → v'.ownBlock ≠ some b := fun b hb hl e => by
    rcases hv with hv | hv
    · exact hb (by rw [← hv]; exact e)
    · rw [hv] at e
      injection e with e
      omega
  refine ⟨RichB.on hg.size (fun b o u hP hb hc => cell_of10 hc (hg.block b hb (fun e => hP.2 e.symm))) (fun b hP hb => ⟨hP.1, key b hP.2 hb⟩) _ _ h1, b5, ps5, h2, owns_of10 h3 (fun g hg' => hg.block g (h3.lt g hg').2 (fun e => h4 g hg' e.symm)), fun b hb => key b (h4 b hb) (h3.lt b hb).2⟩
/-- What is kept by the loop's own records. -/
theorem ElB.own {B : Nat} {v : Value} {w w' : World} {row : Option Nat} {p : Pc} (h : ElB B v w p) (hg : w.grownBy w' row) (hr : ∀ r, row = some r → ∃ o : Obj, w.heap[r]? = some o ∧ o.isCells = false) : ElB B v w' p := by
  obtain ⟨h1, b5, ps5, h2, h3, h4⟩ := h
  refine ⟨RichB.on hg.size (fun b o u _ hb hc => cell_of10 hc (hg.block b hb (fun e => ?_))) (fun _ h _ => h) _ _ h1, b5, ps5, h2, owns_of10 h3 (fun g hg' => hg.block g (h3.lt g hg').2 (fun e => ?_)), h4⟩
  · obtain ⟨ob, e1, e2⟩ := hr b e.symm
    cases ob <;> simp_all [World.cell?, Obj.isCells]
  · obtain ⟨ob, e1, e2⟩ := hr g e.symm
    rcases h3.2 with ⟨h5, _⟩ | ⟨g2, cap, cur, h5, _, h6, _⟩
    · rw [h5] at hg'
      cases hg'
    · rw [h5] at hg'
      injection hg' with hg'
      have : g2 = g := hg'
      subst this
      rw [h6] at e1
      injection e1 with e1
      subst e1
      cases e2
/-- Out of a list's copy that has just been made. -/
theorem ElB.of {B B5 : Nat} {v v5 : Value} {w : World} {p : Pc} (h : Done9 B5 v5 w p) (hB : B ≤ B5) (hv : ∀ g, v.ownBlock = some g → g < B5) : ElB B v w p := by
  obtain ⟨wj, bj, h1, h2, ⟨b5, ps5, h3, h4⟩, h5, h6⟩ := h
  have hN : RichN bj w p.1 (valP p) := fun W hW => h2 W (h5.trans hW (fun _ _ h => h))
  refine ⟨RichB.on (Nat.le_refl _) (fun _ _ _ _ _ hc => hc) (fun b hb _ => ⟨by have h8 : bj ≤ b := hb; omega, fun e => by have h8 : bj ≤ b := hb; have := hv b e; omega⟩) _ _ (RichN.blk _ _ hN), b5, ps5, by omega, h5.owns h4 (fun i hi hs => by have := (h4.lt i hi).1; omega), fun b hb e => ?_⟩
  have := (h4.lt b hb).1
  have := hv b e
  omega
theorem ElB.reads {B : Nat} {v : Value} {w : World} {p : Pc} (h : ElB B v w p) : RichS w p.1 (valP p) := RichB.here _ _ h.1
end Go.Proofs.YtlpalepkomkngaaGreatDoor

namespace Go.Proofs.YtlpalepkomkngaaGreatDoor
open Go.RowKit Ver Evr Span Dep Rich

/-- What lies there: each element's value, and all cells. -/
theorem arg_rows {w : World} {ao : Option Addr} : ∀ {l : List R} {i0 : Nat}, ArgS w ao i0 l → ∃ ps : List Pc, ps.map Prod.fst = l ∧ (∀ p ∈ ps, RichS w p.1 (valP p)) ∧ ∀ (i : Nat) p, ps[i]? = some p → ∃ b off, ao = some ⟨b, off, none⟩ ∧ b < w.heap.size ∧ ∀ (j : Nat) u, (arrP p).toList[j]? = some u → w.cell? ⟨b, off + (i0 + i) * 7 + j, none⟩ = some u
  | [], _, _ => ⟨[], rfl, by simp, by simp⟩
  | x :: l, i0, h => by
    rw [ArgS] at h
    obtain ⟨⟨b, off, v, h1, h2, h3, h4⟩, h5⟩ := h
    obtain ⟨ps, g1, g2, g3⟩ := arg_rows h5
    obtain ⟨k, d, m⟩ := x
    have h3' := h3
    rw [RichS] at h3'
    obtain ⟨ao', cp', rfl, _⟩ := h3'
    refine ⟨(.mk k d m, ao', cp') :: ps, by simp [g1], ?_, ?_⟩
    · intro p hp
      rcases List.mem_cons.1 hp with rfl | hp
      · exact h3
      · exact g2 p hp
    · intro i p hp
      cases i with
      | zero =>
        have : (.mk k d m, ao', cp') = p := by simpa using hp
        subst this
        exact ⟨b, off, h1, h2, h4⟩
      | succ i =>
        obtain ⟨b', off', e1, e2, e3⟩ := g3 i p (by simpa using hp)
        exact ⟨b', off', e1, e2, fun j u hj => by rw [show i0 + (i + 1) = i0 + 1 + i by omega]; exact e3 j u hj⟩
/-- Which cell of which element. -/
theorem cellsP_inv : ∀ (l : List Pc) (k : Nat) (u : Value), (Rich.cellsP l)[k]? = some u → ∃ (i j : Nat) (p : Pc), k = i * 7 + j ∧ l[i]? = some p ∧ (arrP p).toList[j]? = some u
  | [], k, u, h => by simp [Rich.cellsP] at h
  | x :: l, k, u, h => by
    have h' : ((arrP x).toList ++ Rich.cellsP l)[k]? = some u := h
    by_cases hk : k < 7
    · rw [List.getElem?_append_left (by show k < 7; exact hk)] at h'
      exact ⟨0, k, x, by omega, rfl, h'⟩
    · rw [List.getElem?_append_right (by show 7 ≤ k; omega)] at h'
      obtain ⟨i, j, d, e1, e2, e3⟩ := cellsP_inv l (k - 7) u h'
      exact ⟨i + 1, j, d, by omega, by simpa using e2, e3⟩
/-- A row of its own that reads as these. -/
theorem own_ris {w : World} {base : Nat} {e : TypeId} {v : Value} {ps : List Pc} (h : w.ownsRow base e 7 v ps.length (Rich.cellsP ps)) (hr : ∀ p ∈ ps, RichS w p.1 (valP p)) : RisS w v (ps.map Prod.fst) := by
  obtain ⟨a, cp, rfl⟩ := own_form h
  refine ⟨a, cp, by simp, ArgS.of fun i x hx => ?_⟩
  rw [List.getElem?_map] at hx
  obtain ⟨p, hp, rfl⟩ := Option.map_eq_some_iff.1 hx
  have hlt := (List.getElem?_eq_some_iff.1 hp).1
  rcases h.2 with ⟨_, h0⟩ | ⟨g, cap, cur, e1, _⟩
  · omega
  · injection e1 with e1 e2 e3
    subst e1
    refine ⟨g, 0, valP p, rfl, (own_cell h (Rich.cellsP_at ps i p hp 0 _ rfl)).2, hr p (List.mem_of_getElem? hp), fun j u hj => ?_⟩
    have := (own_cell h (Rich.cellsP_at ps i p hp j u hj)).1
    rw [show 0 + (0 + i) * 7 + j = i * 7 + j by omega]
    exact this
end Go.Proofs.YtlpalepkomkngaaGreatDoor

namespace Go.Proofs.YtlpalepkomkngaaGreatDoor
open Go.RowKit Ver Evr Span Dep Rich

theorem cellsP_len10 (a : List Pc) : (Rich.cellsP a).length = a.length * 7 := Rich.cellsP_len a
theorem cellsP_one10 (a : List Pc) : ∀ u ∈ Rich.cellsP a, u.oneCell' = true := Rich.cellsP_one a
theorem Box.grownNone10 {w w' : World} {g : Nat} {t : TypeId} {cs : Array Value} (h : Box w g t cs) (hg : w.grownBy w' (Value.slice none 0 0).ownBlock) : Box w' g t cs := (hg.block g h.lt (by simp [Value.ownBlock])).trans h
theorem Box.grownOwn10 {w w' : World} {g base size n : Nat} {e t : TypeId} {v : Value} {xs : List Value} {cs : Array Value} (h : Box w g t cs) (hg : w.grownBy w' v.ownBlock) (ho : w.ownsRow base e size v n xs) (hlt : g < base) : Box w' g t cs :=
  (hg.block g h.lt (fun e => by have := (ho.lt g e.symm).1; omega)).trans h
/-- A slice of rich dependencies, as an append reads it. -/
theorem src_ris {w : World} {ao : Option Addr} {l : List R} (h : ArgS w ao 0 l) : ∃ ps : List Pc, ps.map Prod.fst = l ∧ (∀ p ∈ ps, RichS w p.1 (valP p)) ∧ ∀ W, Kept (fun _ => False) w W → ∀ (j : Nat) u, (Rich.cellsP ps)[j]? = some u → ∃ ad, ao = some ad ∧ W.cell? (ad.add j) = some u := by
  obtain ⟨ps, h1, h2, h3⟩ := arg_rows h
  refine ⟨ps, h1, h2, fun W hk j u hj => ?_⟩
  obtain ⟨i, k, p, e1, e2, e3⟩ := cellsP_inv ps j u hj
  obtain ⟨b, off, e4, hb, h5⟩ := h3 i p e2
  refine ⟨_, e4, ?_⟩
  rw [Addr.add_lit, e1]
  have h6 := h5 k u e3
  rw [Nat.zero_add, Nat.add_assoc] at h6
  exact (hk.cell (p := ⟨b, off + (i * 7 + k), none⟩) hb (fun h => h)).trans h6
set_option maxRecDepth 100000 in
set_option maxHeartbeats 8000000 in
theorem rall10_core (nm : ByteArray) (n : Int) (v r : ByteArray) (a : Nat) (vd : ByteArray) (s4 s7 s12 : Value) (rq : List R) (a5 : Option Addr) (c5 : Nat) (cf : List R) (a6 : Option Addr) (c6 : Nat) (rc : List R) (a8 : Option Addr) (c8 : Nat) (sp : List R) (a9 : Option Addr) (c9 : Nat) (sg : List R) (a10 : Option Addr) (c10 : Nat) (en : List R) (a11 : Option Addr) (c11 : Nat) (w : World)
    (h5 : ArgS w a5 0 rq) (m5 : a5 = none → rq.length = 0 ∧ c5 = 0) (y5 : rq.length ≤ 2000) (h6 : ArgS w a6 0 cf) (m6 : a6 = none → cf.length = 0 ∧ c6 = 0) (y6 : cf.length ≤ 2000) (h8 : ArgS w a8 0 rc) (m8 : a8 = none → rc.length = 0 ∧ c8 = 0) (y8 : rc.length ≤ 2000) (h9 : ArgS w a9 0 sp) (m9 : a9 = none → sp.length = 0 ∧ c9 = 0) (y9 : sp.length ≤ 2000) (h10 : ArgS w a10 0 sg) (m10 : a10 = none → sg.length = 0 ∧ c10 = 0) (y10 : sg.length ≤ 2000) (h11 : ArgS w a11 0 en) (m11 : a11 = none → en.length = 0 ∧ c11 = 0) (y11 : en.length ≤ 2000) :
    Calls Tryz.prog 14 #[.agg #[.string nm, .int .i64 n, .string v, .string r, .int .u8 (a : Int), .string vd, s4, .slice a5 rq.length c5, .slice a6 cf.length c6, s7, .slice a8 rc.length c8, .slice a9 sp.length c9, .slice a10 sg.length c10, .slice a11 en.length c11, s12]] w fun e w' => (∃ v, e = .returned v ∧ RisS w' v (((((rq ++ cf) ++ rc) ++ sp) ++ sg) ++ en)) ∧ Kept (fun _ => False) w w' := by
  obtain ⟨i0, hi, hz0, hz1, hz2⟩ := info_parts info_rich8
  obtain ⟨p5, e5, r5, q5⟩ := src_ris h5
  have HR5 := Lib.hid r5
  have HQ5 := Lib.hid q5
  have HM5 := Lib.hid m5
  have HE5 := Lib.hid e5
  have hn5 : p5.length = rq.length := by rw [← e5, List.length_map]
  have HL5 := Lib.hid hn5
  obtain ⟨p6, e6, r6, q6⟩ := src_ris h6
  have HR6 := Lib.hid r6
  have HQ6 := Lib.hid q6
  have HM6 := Lib.hid m6
  have HE6 := Lib.hid e6
  have hn6 : p6.length = cf.length := by rw [← e6, List.length_map]
  have HL6 := Lib.hid hn6
  obtain ⟨p8, e8, r8, q8⟩ := src_ris h8
  have HR8 := Lib.hid r8
  have HQ8 := Lib.hid q8
  have HM8 := Lib.hid m8
  have HE8 := Lib.hid e8
  have hn8 : p8.length = rc.length := by rw [← e8, List.length_map]
  have HL8 := Lib.hid hn8
  obtain ⟨p9, e9, r9, q9⟩ := src_ris h9
  have HR9 := Lib.hid r9
  have HQ9 := Lib.hid q9
  have HM9 := Lib.hid m9
  have HE9 := Lib.hid e9
  have hn9 : p9.length = sp.length := by rw [← e9, List.length_map]
  have HL9 := Lib.hid hn9
  obtain ⟨p10, e10, r10, q10⟩ := src_ris h10
  have HR10 := Lib.hid r10
  have HQ10 := Lib.hid q10
  have HM10 := Lib.hid m10
  have HE10 := Lib.hid e10
  have hn10 : p10.length = sg.length := by rw [← e10, List.length_map]
  have HL10 := Lib.hid hn10
  obtain ⟨p11, e11, r11, q11⟩ := src_ris h11
  have HR11 := Lib.hid r11
  have HQ11 := Lib.hid q11
  have HM11 := Lib.hid m11
  have HE11 := Lib.hid e11
  have hn11 : p11.length = en.length := by rw [← e11, List.length_map]
  have HL11 := Lib.hid hn11
  clear h5 m5 r5 q5 e5 hn5 h6 m6 r6 q6 e6 hn6 h8 m8 r8 q8 e8 hn8 h9 m9 r9 q9 e9 hn9 h10 m10 r10 q10 e10 hn10 h11 m11 r11 q11 e11 hn11
  have HX := Lib.hid (Box.made w 28 #[.string nm, .int .i64 n, .string v, .string r, .int .u8 (a : Int), .string vd, s4, .slice a5 rq.length c5, .slice a6 cf.length c6, s7, .slice a8 rc.length c8, .slice a9 sp.length c9, .slice a10 sg.length c10, .slice a11 en.length c11, s12])
  have HK := Lib.hid ((Kept.refl (fun _ => False) w).alloc (.cells #[.string nm, .int .i64 n, .string v, .string r, .int .u8 (a : Int), .string vd, s4, .slice a5 rq.length c5, .slice a6 cf.length c6, s7, .slice a8 rc.length c8, .slice a9 sp.length c9, .slice a10 sg.length c10, .slice a11 en.length c11, s12] 28))
  have x7 := HX.out.cell 7
  have x8 := HX.out.cell 8
  have x10 := HX.out.cell 10
  have x11 := HX.out.cell 11
  have x12 := HX.out.cell 12
  have x13 := HX.out.cell 13
  go_enter Tryz.func14, Tryz.ntmps14
  go_wp2_with (first
    | (at_builtin; refine wpList_append_src rfl (.tmp 4) (.tmp 6) 25 rfl (w.heap.size + 1) 39 i0 _ 7 96 Tryz.underlying25 hi hz0 hz1 hz2 rfl (by decide) (.slice none 0 0) (0) ([]) rfl (World.ownsRow_nil _ _ _ _) a5 rq.length c5 (Rich.cellsP p5) rfl HM5.out (by rw [cellsP_len10, HL5.out]) (HQ5.out _ HK.out) (cellsP_one10 _) (by unfold maxLen; omega) (by omega) (by simp) ?_
       intro v1 w1 hown0 hgrow hblk
       have hown : w1.ownsRow (w.heap.size + 1) 39 7 v1 (rq.length) (Rich.cellsP p5) := by simpa using hown0
       clear hown0
       obtain ⟨b1, d1, e1⟩ := own_form hown
       subst e1
       have HO1 := Lib.hid hown
       have HK1 := Lib.hid ((HK.out).grown hgrow (fun j hj => by simp [Value.ownBlock] at hj))
       have HZ1 := Lib.hid (show w.heap.size + 1 ≤ w1.heap.size from Nat.le_trans (by simp) hgrow.size)
       have hxb := (HX.out).grownNone10 hgrow
       have HX1 := Lib.hid hxb
       have x8 := hxb.cell 8
       have x10 := hxb.cell 10
       have x11 := hxb.cell 11
       have x12 := hxb.cell 12
       have x13 := hxb.cell 13
       clear hown hgrow hblk hxb)
    | (at_builtin; refine wpList_append_src rfl (.tmp 8) (.tmp 10) 25 rfl (w.heap.size + 1) 39 i0 _ 7 96 Tryz.underlying25 hi hz0 hz1 hz2 rfl (by decide) (.slice b1 (rq.length) d1) (rq.length) (Rich.cellsP p5) rfl HO1.out a6 cf.length c6 (Rich.cellsP p6) rfl HM6.out (by rw [cellsP_len10, HL6.out]) (HQ6.out _ HK1.out) (cellsP_one10 _) (by unfold maxLen; omega) (by omega) (by have := HZ1.out; omega) ?_
       intro v2 w2 hown0 hgrow hblk
       have hown : w2.ownsRow (w.heap.size + 1) 39 7 v2 (rq.length + cf.length) (Rich.cellsP p5 ++ Rich.cellsP p6) := hown0
       clear hown0
       obtain ⟨b2, d2, e2⟩ := own_form hown
       subst e2
       have HO2 := Lib.hid hown
       have HK2 := Lib.hid ((HK1.out).grown hgrow (fun j hj => .inr (by have := (HO1.out.lt j hj).1; omega)))
       have HZ2 := Lib.hid (show w.heap.size + 1 ≤ w2.heap.size from Nat.le_trans (HZ1.out) hgrow.size)
       have hxb := (HX1.out).grownOwn10 hgrow HO1.out (by omega)
       have HX2 := Lib.hid hxb
       have x10 := hxb.cell 10
       have x11 := hxb.cell 11
       have x12 := hxb.cell 12
       have x13 := hxb.cell 13
       clear hown hgrow hblk hxb)
    | (at_builtin; refine wpList_append_src rfl (.tmp 12) (.tmp 14) 25 rfl (w.heap.size + 1) 39 i0 _ 7 96 Tryz.underlying25 hi hz0 hz1 hz2 rfl (by decide) (.slice b2 (rq.length + cf.length) d2) (rq.length + cf.length) (Rich.cellsP p5 ++ Rich.cellsP p6) rfl HO2.out a8 rc.length c8 (Rich.cellsP p8) rfl HM8.out (by rw [cellsP_len10, HL8.out]) (HQ8.out _ HK2.out) (cellsP_one10 _) (by unfold maxLen; omega) (by omega) (by have := HZ2.out; omega) ?_
       intro v3 w3 hown0 hgrow hblk
       have hown : w3.ownsRow (w.heap.size + 1) 39 7 v3 (rq.length + cf.length + rc.length) (Rich.cellsP p5 ++ Rich.cellsP p6 ++ Rich.cellsP p8) := hown0
       clear hown0
       obtain ⟨b3, d3, e3⟩ := own_form hown
       subst e3
       have HO3 := Lib.hid hown
       have HK3 := Lib.hid ((HK2.out).grown hgrow (fun j hj => .inr (by have := (HO2.out.lt j hj).1; omega)))
       have HZ3 := Lib.hid (show w.heap.size + 1 ≤ w3.heap.size from Nat.le_trans (HZ2.out) hgrow.size)
       have hxb := (HX2.out).grownOwn10 hgrow HO2.out (by omega)
       have HX3 := Lib.hid hxb
       have x11 := hxb.cell 11
       have x12 := hxb.cell 12
       have x13 := hxb.cell 13
       clear hown hgrow hblk hxb)
    | (at_builtin; refine wpList_append_src rfl (.tmp 16) (.tmp 18) 25 rfl (w.heap.size + 1) 39 i0 _ 7 96 Tryz.underlying25 hi hz0 hz1 hz2 rfl (by decide) (.slice b3 (rq.length + cf.length + rc.length) d3) (rq.length + cf.length + rc.length) (Rich.cellsP p5 ++ Rich.cellsP p6 ++ Rich.cellsP p8) rfl HO3.out a9 sp.length c9 (Rich.cellsP p9) rfl HM9.out (by rw [cellsP_len10, HL9.out]) (HQ9.out _ HK3.out) (cellsP_one10 _) (by unfold maxLen; omega) (by omega) (by have := HZ3.out; omega) ?_
       intro v4 w4 hown0 hgrow hblk
       have hown : w4.ownsRow (w.heap.size + 1) 39 7 v4 (rq.length + cf.length + rc.length + sp.length) (Rich.cellsP p5 ++ Rich.cellsP p6 ++ Rich.cellsP p8 ++ Rich.cellsP p9) := hown0
       clear hown0
       obtain ⟨b4, d4, e4⟩ := own_form hown
       subst e4
       have HO4 := Lib.hid hown
       have HK4 := Lib.hid ((HK3.out).grown hgrow (fun j hj => .inr (by have := (HO3.out.lt j hj).1; omega)))
       have HZ4 := Lib.hid (show w.heap.size + 1 ≤ w4.heap.size from Nat.le_trans (HZ3.out) hgrow.size)
       have hxb := (HX3.out).grownOwn10 hgrow HO3.out (by omega)
       have HX4 := Lib.hid hxb
       have x12 := hxb.cell 12
       have x13 := hxb.cell 13
       clear hown hgrow hblk hxb)
    | (at_builtin; refine wpList_append_src rfl (.tmp 20) (.tmp 22) 25 rfl (w.heap.size + 1) 39 i0 _ 7 96 Tryz.underlying25 hi hz0 hz1 hz2 rfl (by decide) (.slice b4 (rq.length + cf.length + rc.length + sp.length) d4) (rq.length + cf.length + rc.length + sp.length) (Rich.cellsP p5 ++ Rich.cellsP p6 ++ Rich.cellsP p8 ++ Rich.cellsP p9) rfl HO4.out a10 sg.length c10 (Rich.cellsP p10) rfl HM10.out (by rw [cellsP_len10, HL10.out]) (HQ10.out _ HK4.out) (cellsP_one10 _) (by unfold maxLen; omega) (by omega) (by have := HZ4.out; omega) ?_
       intro v5 w5 hown0 hgrow hblk
       have hown : w5.ownsRow (w.heap.size + 1) 39 7 v5 (rq.length + cf.length + rc.length + sp.length + sg.length) (Rich.cellsP p5 ++ Rich.cellsP p6 ++ Rich.cellsP p8 ++ Rich.cellsP p9 ++ Rich.cellsP p10) := hown0
       clear hown0
       obtain ⟨b5, d5, e5⟩ := own_form hown
       subst e5
       have HO5 := Lib.hid hown
       have HK5 := Lib.hid ((HK4.out).grown hgrow (fun j hj => .inr (by have := (HO4.out.lt j hj).1; omega)))
       have HZ5 := Lib.hid (show w.heap.size + 1 ≤ w5.heap.size from Nat.le_trans (HZ4.out) hgrow.size)
       have hxb := (HX4.out).grownOwn10 hgrow HO4.out (by omega)
       have HX5 := Lib.hid hxb
       have x13 := hxb.cell 13
       clear hown hgrow hblk hxb)
    | (at_builtin; refine wpList_append_src rfl (.tmp 24) (.tmp 26) 25 rfl (w.heap.size + 1) 39 i0 _ 7 96 Tryz.underlying25 hi hz0 hz1 hz2 rfl (by decide) (.slice b5 (rq.length + cf.length + rc.length + sp.length + sg.length) d5) (rq.length + cf.length + rc.length + sp.length + sg.length) (Rich.cellsP p5 ++ Rich.cellsP p6 ++ Rich.cellsP p8 ++ Rich.cellsP p9 ++ Rich.cellsP p10) rfl HO5.out a11 en.length c11 (Rich.cellsP p11) rfl HM11.out (by rw [cellsP_len10, HL11.out]) (HQ11.out _ HK5.out) (cellsP_one10 _) (by unfold maxLen; omega) (by omega) (by have := HZ5.out; omega) ?_
       intro v6 w6 hown0 hgrow hblk
       have hown : w6.ownsRow (w.heap.size + 1) 39 7 v6 (rq.length + cf.length + rc.length + sp.length + sg.length + en.length) (Rich.cellsP p5 ++ Rich.cellsP p6 ++ Rich.cellsP p8 ++ Rich.cellsP p9 ++ Rich.cellsP p10 ++ Rich.cellsP p11) := hown0
       clear hown0
       obtain ⟨b6, d6, e6⟩ := own_form hown
       subst e6
       have HO6 := Lib.hid hown
       have HK6 := Lib.hid ((HK5.out).grown hgrow (fun j hj => .inr (by have := (HO5.out.lt j hj).1; omega)))
       have HZ6 := Lib.hid (show w.heap.size + 1 ≤ w6.heap.size from Nat.le_trans (HZ5.out) hgrow.size)
       have hxb := (HX5.out).grownOwn10 hgrow HO5.out (by omega)
       have HX6 := Lib.hid hxb
       clear hown hgrow hblk hxb)
    | fail)
  have hq : RisS w6 (.slice b6 (rq.length + cf.length + rc.length + sp.length + sg.length + en.length) d6) (rq ++ cf ++ rc ++ sp ++ sg ++ en) := by
    have ho := HO6.out
    have e1 : rq.length + cf.length + rc.length + sp.length + sg.length + en.length = (p5 ++ p6 ++ p8 ++ p9 ++ p10 ++ p11).length := by simp only [List.length_append, HL5.out, HL6.out, HL8.out, HL9.out, HL10.out, HL11.out]
    have e2 : Rich.cellsP p5 ++ Rich.cellsP p6 ++ Rich.cellsP p8 ++ Rich.cellsP p9 ++ Rich.cellsP p10 ++ Rich.cellsP p11 = Rich.cellsP (p5 ++ p6 ++ p8 ++ p9 ++ p10 ++ p11) := by simp only [Rich.cellsP_app]
    rw [e2] at ho
    have h := own_ris (w := w6) (v := .slice b6 (rq.length + cf.length + rc.length + sp.length + sg.length + en.length) d6) (ps := (p5 ++ p6 ++ p8 ++ p9 ++ p10 ++ p11)) (by rw [← e1]; exact ho) (fun p hp => by
      simp only [List.mem_append] at hp
      have hk := HK6.out
      rcases hp with ((((hp | hp) | hp) | hp) | hp) | hp
      · exact RichS.kept hk _ _ (HR5.out p hp)
      · exact RichS.kept hk _ _ (HR6.out p hp)
      · exact RichS.kept hk _ _ (HR8.out p hp)
      · exact RichS.kept hk _ _ (HR9.out p hp)
      · exact RichS.kept hk _ _ (HR10.out p hp)
      · exact RichS.kept hk _ _ (HR11.out p hp))
    rw [show (p5 ++ p6 ++ p8 ++ p9 ++ p10 ++ p11).map Prod.fst = (rq ++ cf ++ rc ++ sp ++ sg ++ en) by simp only [List.map_append, HE5.out, HE6.out, HE8.out, HE9.out, HE10.out, HE11.out]] at h
    exact h
  have HQ := Lib.hid hq
  clear hq
  go_ret
  exact ⟨⟨_, rfl, HQ.out⟩, HK6.out⟩
/-- All rich dependencies of a package. -/
def allR (p : Pk) : List R := p.rq ++ p.cf ++ p.rc ++ p.sp ++ p.sg ++ p.en
theorem rall10_walk (p : Pk) (s : Sl) (w : World) (hP : PkIn w p s) (hS : PkSmall p) :
    Calls Tryz.prog 14 #[.agg (pkA p s)] w fun e w' => (∃ v, e = .returned v ∧ RisS w' v (allR p)) ∧ Kept (fun _ => False) w w' := by
  obtain ⟨s4, s5, s6, s7, s8, s9, s10, s11, s12⟩ := s
  obtain ⟨a5, c5, e5, h5⟩ := hP.rq
  have m5 := hP.k5
  obtain ⟨a6, c6, e6, h6⟩ := hP.cf
  have m6 := hP.k6
  obtain ⟨a8, c8, e8, h8⟩ := hP.rc
  have m8 := hP.k8
  obtain ⟨a9, c9, e9, h9⟩ := hP.sp
  have m9 := hP.k9
  obtain ⟨a10, c10, e10, h10⟩ := hP.sg
  have m10 := hP.k10
  obtain ⟨a11, c11, e11, h11⟩ := hP.en
  have m11 := hP.k11
  dsimp only at e5 m5 e6 m6 e8 m8 e9 m9 e10 m10 e11 m11
  subst e5; subst e6; subst e8; subst e9; subst e10; subst e11
  exact rall10_core p.nm p.n p.v p.r p.a p.vd s4 s7 s12 p.rq a5 c5 p.cf a6 c6 p.rc a8 c8 p.sp a9 c9 p.sg a10 c10 p.en a11 c11 w h5 (fun h => m5 _ _ (by rw [h])) (Nat.le_trans hS.rq.2.1 (by decide)) h6 (fun h => m6 _ _ (by rw [h])) (Nat.le_trans hS.cf.2.1 (by decide)) h8 (fun h => m8 _ _ (by rw [h])) (Nat.le_trans hS.rc.2.1 (by decide)) h9 (fun h => m9 _ _ (by rw [h])) (Nat.le_trans hS.sp.2.1 (by decide)) h10 (fun h => m10 _ _ (by rw [h])) (Nat.le_trans hS.sg.2.1 (by decide)) h11 (fun h => m11 _ _ (by rw [h])) (Nat.le_trans hS.en.2.1 (by decide))
end Go.Proofs.YtlpalepkomkngaaGreatDoor

namespace Go.Proofs.YtlpalepkomkngaaGreatDoor
open Go.RowKit

theorem wpIn_of_wp {n : Nat} {P : Program} {o : Oper} {a : Act} {w : World} {K : Act → World → Prop} {Q : Exit → Act → World → Prop} (h : o.wp P a w K Q) : o.wpIn Fence.wide n P a w K Q := by
  unfold Oper.wpIn
  refine ⟨fun _ _ => trivial, ?_⟩
  unfold Oper.wp at h
  rw [show Fence.wide.round = none from rfl, Oper.semAt_none]
  generalize (execOp a.eval o).run P w = r at *
  cases r with
  | ok x w' =>
    cases x with
    | enter f args => exact ⟨fun h => absurd h (by decide), callsIn_wide.2 h⟩
    | row row args => exact ⟨fun h => absurd h (by decide), fun c cs _ => let ⟨v, w', r, s⟩ := h c cs; ⟨v, w', r, stepsIn_wide.2 s⟩⟩
    | round => exact h.elim
    | _ => exact h
  | halt x w' => cases x <;> exact h
section
variable {n : Nat} {P : Program} {ops : Array Oper} {md : Region.Mode} {Q : Exit → Act → World → Prop}
theorem wpOpIn_step9 {i : Nat} {o : Oper} {K : Act → World → Prop} {a : Act} {w : World} (ho : ops[i]? = some o)
    (h : ∀ K' : Act → World → Prop, (∀ a w, K a w → K' a w) → if Region.wanted o (yielded ops a.tmps) = true then Oper.wp P o a w K' Q else K' (a.put o.dst undef) w) : wpOpIn Fence.wide n P ops Q i K a w := by
  have := h K (fun _ _ h => h)
  unfold wpOpIn
  rw [ho]
  show if Region.wanted o (yielded ops a.tmps) = true then _ else _
  split
  · rename_i hw; rw [if_pos hw] at this; exact wpIn_of_wp this
  · rename_i hw; rw [if_neg hw] at this; exact ⟨fun _ _ => trivial, this⟩
theorem wpAnyIn_inv9 (I : Array Bool → Act → World → Prop)
    (hstep : ∀ listed a w i, listed.size = ops.size → i ∈ Region.ready md ops listed → I listed a w → wpOpIn Fence.wide n P ops Q i (fun a' w' => I (listed.setIfInBounds i true) a' w') a w)
    (hend : ∀ listed a w, listed.size = ops.size → Region.ready md ops listed = [] → I listed a w → Q .normal a w) :
    ∀ (fuel : Nat) (listed : Array Bool) (a : Act) (w : World), listed.size = ops.size → listed.toList.count false ≤ fuel → I listed a w → wpAnyIn Fence.wide n P md ops Q fuel listed a w := by
  intro fuel
  induction fuel with
  | zero =>
    intro listed a w hs hc h
    have hr : Region.ready md ops listed = [] := by
      apply List.eq_nil_iff_forall_not_mem.2
      intro i hi
      have := List.count_pos_iff.2 (List.mem_of_getElem? (ready_slot hs hi))
      omega
    exact ⟨hr, hend listed a w hs hr h⟩
  | succ fuel ih =>
    intro listed a w hs hc h
    refine ⟨fun hr => hend listed a w hs hr h, fun i hi => wpOpIn_mono (fun a' w' h' => ih _ a' w' (by simpa using hs) ?_ h') (hstep listed a w i hs hi h)⟩
    have := count_set_true _ i (ready_slot hs hi)
    rw [Array.toList_setIfInBounds]
    omega

end
end Go.Proofs.YtlpalepkomkngaaGreatDoor
