/-
  Rows of rich dependencies as an append reads and writes them (layer 10). Slices of a package's copy that hold whatever becomes of the copy's own variable (block g), with room for what they hold (layer 10). A region that draws its order, in the body of a loop over an iterator, operation by operation: XInvReg's law there. Nothing of the program is named here. XInvReg's law, where what an operation may do hangs on which it is: what a slot holds must stand what the others do alone. Nothing of the program is named here. Conditions: as each theorem states.
-/
import Derived.Test.YtbofbkndmnidpaaDoorK23
import Derived.Test.YtbofbkndmnidpaaDoorK22
import Derived.Test.YtbofbkndmnidpaaDoorK15
namespace Go.Proofs.YtbofbkndmnidpaaDoor
open Go.RowKit Ver Evr Span Dep Rich

/-- What lies there: each element's value, and all cells. -/
theorem arg_rows {w : World} {ao : Option Addr} : ∀ {l : List R} {i0 : Nat}, ArgS w ao i0 l → ∃ ps : List Pc, ps.map Prod.fst = l ∧ (∀ p ∈ ps, RichS w p.1 (valP p)) ∧ ∀ (i : Nat) p, ps[i]? = some p → ∃ b off, ao = some ⟨b, off, none⟩ ∧ b < w.heap.size ∧ ∀ (j : Nat) u, (arrP p).toList[j]? = some u → w.cell? ⟨b, off + (i0 + i) * 7 + j, none⟩ = some u
  | [], _, _ => ⟨[], rfl, by simp, by simp⟩
  | x :: l, i0, h => by
    rw [ArgS] at h
    obtain ⟨⟨b, off, v, h1, h2, h3, h4⟩, h5⟩ := h
    obtain ⟨ps, g1, g2, g3⟩ := arg_rows h5
    obtain ⟨k, d, m⟩ := x
    have h3' := h3
    rw [RichS] at h3'
    obtain ⟨ao', cp', rfl, _⟩ := h3'
    refine ⟨(.mk k d m, ao', cp') :: ps, by simp [g1], ?_, ?_⟩
    · intro p hp
      rcases List.mem_cons.1 hp with rfl | hp
      · exact h3
      · exact g2 p hp
    · intro i p hp
      cases i with
      | zero =>
        have : (.mk k d m, ao', cp') = p := by simpa using hp
        subst this
        exact ⟨b, off, h1, h2, h4⟩
      | succ i =>
        obtain ⟨b', off', e1, e2, e3⟩ := g3 i p (by simpa using hp)
        exact ⟨b', off', e1, e2, fun j u hj => by rw [show i0 + (i + 1) = i0 + 1 + i by omega]; exact e3 j u hj⟩
/-- Which cell of which element. -/
theorem cellsP_inv : ∀ (l : List Pc) (k : Nat) (u : Value), (Rich.cellsP l)[k]? = some u → ∃ (i j : Nat) (p : Pc), k = i * 7 + j ∧ l[i]? = some p ∧ (arrP p).toList[j]? = some u
  | [], k, u, h => by simp [Rich.cellsP] at h
  | x :: l, k, u, h => by
    have h' : ((arrP x).toList ++ Rich.cellsP l)[k]? = some u := h
    by_cases hk : k < 7
    · rw [List.getElem?_append_left (by show k < 7; exact hk)] at h'
      exact ⟨0, k, x, by omega, rfl, h'⟩
    · rw [List.getElem?_append_right (by show 7 ≤ k; omega)] at h'
      obtain ⟨i, j, d, e1, e2, e3⟩ := cellsP_inv l (k - 7) u h'
      exact ⟨i + 1, j, d, by omega, by simpa using e2, e3⟩
/-- A row of its own that reads as these. -/
theorem own_ris {w : World} {base : Nat} {e : TypeId} {v : Value} {ps : List Pc} (h : w.ownsRow base e 7 v ps.length (Rich.cellsP ps)) (hr : ∀ p ∈ ps, RichS w p.1 (valP p)) : RisS w v (ps.map Prod.fst) := by
  obtain ⟨a, cp, rfl⟩ := own_form h
  refine ⟨a, cp, by simp, ArgS.of fun i x hx => ?_⟩
  rw [List.getElem?_map] at hx
  obtain ⟨p, hp, rfl⟩ := Option.map_eq_some_iff.1 hx
  have hlt := (List.getElem?_eq_some_iff.1 hp).1
  rcases h.2 with ⟨_, h0⟩ | ⟨g, cap, cur, e1, _⟩
  · omega
  · injection e1 with e1 e2 e3
    subst e1
    refine ⟨g, 0, valP p, rfl, (own_cell h (Rich.cellsP_at ps i p hp 0 _ rfl)).2, hr p (List.mem_of_getElem? hp), fun j u hj => ?_⟩
    have := (own_cell h (Rich.cellsP_at ps i p hp j u hj)).1
    rw [show 0 + (0 + i) * 7 + j = i * 7 + j by omega]
    exact this
end Go.Proofs.YtbofbkndmnidpaaDoor

namespace Go.Proofs.YtbofbkndmnidpaaDoor
open Go.RowKit Ver Evr Span Dep Rich

def RisG (g : Nat) (W : World) (v : Value) (l : List R) : Prop := ∃ (ao : Option Addr) (cp : Nat) (ps : List Pc), v = .slice ao l.length cp ∧ (ao = none → l.length = 0 ∧ cp = 0) ∧ l.length ≤ cp ∧ ps.map Prod.fst = l ∧
  (∀ (j : Nat) u, (Rich.cellsP ps)[j]? = some u → ∃ b off, ao = some ⟨b, off, none⟩ ∧ b ≠ g ∧ b < W.heap.size ∧ W.cell? ⟨b, off + j, none⟩ = some u) ∧ ∀ p ∈ ps, ∀ W', Kept (fun b => b = g) W W' → RichS W' p.1 (valP p)
def DesG (g : Nat) (W : World) (v : Value) (l : List De) : Prop := ∃ (ao : Option Addr) (cp : Nat), v = .slice ao l.length cp ∧ (ao = none → l.length = 0 ∧ cp = 0) ∧ l.length ≤ cp ∧
  ∀ (j : Nat) u, (cellsDe l)[j]? = some u → ∃ b off, ao = some ⟨b, off, none⟩ ∧ b ≠ g ∧ b < W.heap.size ∧ W.cell? ⟨b, off + j, none⟩ = some u
def StrG (g : Nat) (W : World) (v : Value) (l : List ByteArray) : Prop := ∃ (ao : Option Addr) (cp : Nat), v = .slice ao l.length cp ∧ (ao = none → l.length = 0 ∧ cp = 0) ∧ l.length ≤ cp ∧
  ∀ (j : Nat) u, (cellsS l)[j]? = some u → ∃ ad : Addr, ao = some ad ∧ ad.block ≠ g ∧ ad.block < W.heap.size ∧ W.cell? (ad.add j) = some u
section
variable {g : Nat} {w w' : World} {v : Value}
theorem cellG (hk : Kept (fun b => b = g) w w') {l : List Value} {ao : Option Addr} (h : ∀ (j : Nat) u, l[j]? = some u → ∃ b off, ao = some ⟨b, off, none⟩ ∧ b ≠ g ∧ b < w.heap.size ∧ w.cell? ⟨b, off + j, none⟩ = some u) :
    ∀ (j : Nat) u, l[j]? = some u → ∃ b off, ao = some ⟨b, off, none⟩ ∧ b ≠ g ∧ b < w'.heap.size ∧ w'.cell? ⟨b, off + j, none⟩ = some u := fun j u hj => by
  obtain ⟨b, off, h1, h2, h3, h4⟩ := h j u hj
  exact ⟨b, off, h1, h2, Nat.lt_of_lt_of_le h3 hk.size, (hk.cell (p := ⟨b, off + j, none⟩) h3 h2).trans h4⟩
theorem RisG.kept {l : List R} (h : RisG g w v l) (hk : Kept (fun b => b = g) w w') : RisG g w' v l := by
  obtain ⟨ao, cp, ps, h1, h2, h3, h4, h5, h6⟩ := h
  exact ⟨ao, cp, ps, h1, h2, h3, h4, cellG hk h5, fun p hp W hW => h6 p hp W (hk.trans hW (fun _ _ h => h))⟩
theorem DesG.kept {l : List De} (h : DesG g w v l) (hk : Kept (fun b => b = g) w w') : DesG g w' v l := by
  obtain ⟨ao, cp, h1, h2, h3, h5⟩ := h
  exact ⟨ao, cp, h1, h2, h3, cellG hk h5⟩
theorem StrG.kept {l : List ByteArray} (h : StrG g w v l) (hk : Kept (fun b => b = g) w w') : StrG g w' v l := by
  obtain ⟨ao, cp, h1, h2, h3, h5⟩ := h
  refine ⟨ao, cp, h1, h2, h3, fun j u hj => ?_⟩
  obtain ⟨ad, e1, e2, e3, e4⟩ := h5 j u hj
  exact ⟨ad, e1, e2, Nat.lt_of_lt_of_le e3 hk.size, by rw [hk.cell (p := ad.add j) (by rw [add_block]; exact e3) (by rw [add_block]; exact e2)]; exact e4⟩
theorem RisG.here {l : List R} (h : RisG g w v l) : RisS w v l := by
  obtain ⟨ao, cp, ps, h1, _, _, rfl, h5, h6⟩ := h
  refine ⟨ao, cp, h1, ArgS.of fun i x hx => ?_⟩
  rw [List.getElem?_map] at hx
  obtain ⟨p, hp, rfl⟩ := Option.map_eq_some_iff.1 hx
  obtain ⟨b, off, e1, _, e3, _⟩ := h5 (i * 7 + 0) _ (Rich.cellsP_at ps i p hp 0 _ rfl)
  refine ⟨b, off, valP p, e1, e3, h6 p (List.mem_of_getElem? hp) w (Kept.refl _ _), fun j u hj => ?_⟩
  obtain ⟨b', off', g1, _, _, g4⟩ := h5 (i * 7 + j) u (Rich.cellsP_at ps i p hp j u hj)
  rw [e1] at g1
  injection g1 with g1
  injection g1 with g1 g2
  subst g1; subst g2
  rw [show off + (0 + i) * 7 + j = off + (i * 7 + j) by omega]
  exact g4
theorem DesG.here {l : List De} (h : DesG g w v l) : DesS w v l := by
  obtain ⟨ao, cp, h1, _, _, h5⟩ := h
  refine ⟨ao, cp, h1, fun i d hi => ?_⟩
  obtain ⟨b, off, e1, _, e3, _⟩ := h5 (i * 5 + 0) _ (cellsDe_at l i d hi 0 _ rfl)
  refine ⟨b, off, e1, e3, fun j u hj => ?_⟩
  obtain ⟨b', off', g1, _, _, g4⟩ := h5 (i * 5 + j) u (cellsDe_at l i d hi j u (by simpa using hj))
  rw [e1] at g1
  injection g1 with g1
  injection g1 with g1 g2
  subst g1; subst g2
  rw [Nat.add_assoc]
  exact g4
theorem StrG.here {l : List ByteArray} (h : StrG g w v l) : StrS w v l := by
  obtain ⟨ao, cp, h1, _, _, h5⟩ := h
  refine ⟨ao, cp, h1, fun i u hi => ?_⟩
  obtain ⟨ad, e1, e2, e3, e4⟩ := h5 i (.string u) (by simp [cellsS, hi])
  exact ⟨ad, e1, e4, e3⟩
/-- Out of a slice of old memory. -/
theorem RisG.of {l : List R} (h : RisS w v l) (hn : NilOk v) (hc : CapOk v) (hg : w.heap.size ≤ g) (hk : Kept (fun _ => False) w w') : RisG g w' v l := by
  obtain ⟨ao, cp, rfl, hA⟩ := h
  obtain ⟨ps, g1, g2, g3⟩ := arg_rows hA
  refine ⟨ao, cp, ps, rfl, fun e => hn _ _ (by rw [e]), hc _ _ _ rfl, g1, fun j u hj => ?_, fun p hp W hW => RichS.kept (hk.trans hW (fun i hi h => by omega)) _ _ (g2 p hp)⟩
  obtain ⟨i, k, p, rfl, h1, h2⟩ := cellsP_inv ps j u hj
  obtain ⟨b, off, e1, e2, e3⟩ := g3 i p h1
  refine ⟨b, off, e1, by omega, Nat.lt_of_lt_of_le e2 hk.size, ?_⟩
  have := e3 k u h2
  rw [Nat.zero_add, Nat.add_assoc] at this
  exact (hk.cell (p := ⟨b, off + (i * 7 + k), none⟩) e2 (fun h => h)).trans this
theorem DesG.of {l : List De} (h : DesS w v l) (hn : NilOk v) (hc : CapOk v) (hg : w.heap.size ≤ g) (hk : Kept (fun _ => False) w w') : DesG g w' v l := by
  obtain ⟨ao, cp, rfl, hA⟩ := h
  refine ⟨ao, cp, rfl, fun e => hn _ _ (by rw [e]), hc _ _ _ rfl, fun j u hj => ?_⟩
  obtain ⟨i, k, d, rfl, h1, h2⟩ := cellsDe_inv l j u hj
  obtain ⟨b, off, e1, e2, e3⟩ := hA i d h1
  refine ⟨b, off, e1, by omega, Nat.lt_of_lt_of_le e2 hk.size, ?_⟩
  have := e3 k u (by simpa using h2)
  rw [Nat.add_assoc] at this
  exact (hk.cell (p := ⟨b, off + (i * 5 + k), none⟩) e2 (fun h => h)).trans this
theorem StrG.of {l : List ByteArray} (h : StrS w v l) (hn : NilOk v) (hc : CapOk v) (hg : w.heap.size ≤ g) (hk : Kept (fun _ => False) w w') : StrG g w' v l := by
  obtain ⟨ao, cp, rfl, hA⟩ := h
  refine ⟨ao, cp, rfl, fun e => hn _ _ (by rw [e]), hc _ _ _ rfl, fun j u hj => ?_⟩
  simp only [cellsS, List.getElem?_map, Option.map_eq_some_iff] at hj
  obtain ⟨x, hx, rfl⟩ := hj
  obtain ⟨a, h1, h2, h3⟩ := hA j x hx
  exact ⟨a, h1, by omega, Nat.lt_of_lt_of_le h3 hk.size, (hk.cell (p := a.add j) (by rw [add_block]; exact h3) (fun h => h)).trans h2⟩
end
/-- A piece of a row, as an append reads it. -/
theorem cellsP_take (ps : List Pc) (n : Nat) : Rich.cellsP (ps.take n) = (Rich.cellsP ps).take (n * 7) := by
  induction ps generalizing n with
  | nil => simp [Rich.cellsP]
  | cons p ps ih =>
    cases n with
    | zero => simp [Rich.cellsP]
    | succ n =>
      rw [List.take_succ_cons, Rich.cellsP, Rich.cellsP, ih, List.take_append]
      have e : (arrP p).toList.length = 7 := rfl
      rw [e, List.take_of_length_le (l := (arrP p).toList) (by rw [e]; omega), show (n + 1) * 7 - 7 = n * 7 by omega]
theorem cellsP_drop (ps : List Pc) (n : Nat) : Rich.cellsP (ps.drop n) = (Rich.cellsP ps).drop (n * 7) := by
  induction ps generalizing n with
  | nil => simp [Rich.cellsP]
  | cons p ps ih =>
    cases n with
    | zero => simp
    | succ n =>
      rw [List.drop_succ_cons, Rich.cellsP, ih, List.drop_append]
      have e : (arrP p).toList.length = 7 := rfl
      rw [e, List.drop_of_length_le (l := (arrP p).toList) (by rw [e]; omega), List.nil_append, show (n + 1) * 7 - 7 = n * 7 by omega]
/-- A row of its own that reads as these, whatever becomes of block g. -/
theorem own_risG {g base : Nat} {w : World} {e : TypeId} {v : Value} {ps : List Pc} (h : w.ownsRow base e 7 v ps.length (Rich.cellsP ps)) (hb : g < base) (hr : ∀ p ∈ ps, ∀ W', Kept (fun b => b = g) w W' → RichS W' p.1 (valP p)) : RisG g w v (ps.map Prod.fst) := by
  have hc := capOk_own h
  obtain ⟨a, cp, rfl⟩ := own_form h
  refine ⟨a, cp, ps, by simp, fun hn => ?_, by rw [List.length_map]; exact hc _ _ _ rfl, rfl, fun j u hj => ?_, hr⟩
  · subst hn
    rcases h.2 with ⟨h1, h2⟩ | ⟨g, cap, cur, e1, _⟩
    · injection h1 with _ h3 h4
      exact ⟨by rw [List.length_map]; exact h3, h4⟩
    · cases e1
  · have hlt : j < (Rich.cellsP ps).length := (List.getElem?_eq_some_iff.1 hj).1
    rcases h.2 with ⟨_, h0⟩ | ⟨gb, cap, cur, e1, _⟩
    · rw [Rich.cellsP_len, h0] at hlt
      omega
    · injection e1 with e1 e2 e3
      subst e1
      have := own_cell h hj
      have hlo := (h.lt gb rfl).1
      exact ⟨gb, 0, rfl, by omega, this.2, by rw [Nat.zero_add]; exact this.1⟩
end Go.Proofs.YtbofbkndmnidpaaDoor

namespace Go.Proofs.YtbofbkndmnidpaaDoor
open Go.RowKit

theorem wpIn_of_wp {n : Nat} {P : Program} {o : Oper} {a : Act} {w : World} {K : Act → World → Prop} {Q : Exit → Act → World → Prop} (h : o.wp P a w K Q) : o.wpIn Fence.wide n P a w K Q := by
  unfold Oper.wpIn
  refine ⟨fun _ _ => trivial, ?_⟩
  unfold Oper.wp at h
  rw [show Fence.wide.round = none from rfl, Oper.semAt_none]
  generalize (execOp a.eval o).run P w = r at *
  cases r with
  | ok x w' =>
    cases x with
    | enter f args => exact ⟨fun h => absurd h (by decide), callsIn_wide.2 h⟩
    | row row args => exact ⟨fun h => absurd h (by decide), fun c cs _ => let ⟨v, w', r, s⟩ := h c cs; ⟨v, w', r, stepsIn_wide.2 s⟩⟩
    | round => exact h.elim
    | _ => exact h
  | halt x w' => cases x <;> exact h
section
variable {n : Nat} {P : Program} {ops : Array Oper} {md : Region.Mode} {Q : Exit → Act → World → Prop}
theorem wpOpIn_step9 {i : Nat} {o : Oper} {K : Act → World → Prop} {a : Act} {w : World} (ho : ops[i]? = some o)
    (h : ∀ K' : Act → World → Prop, (∀ a w, K a w → K' a w) → if Region.wanted o (yielded ops a.tmps) = true then Oper.wp P o a w K' Q else K' (a.put o.dst undef) w) : wpOpIn Fence.wide n P ops Q i K a w := by
  have := h K (fun _ _ h => h)
  unfold wpOpIn
  rw [ho]
  show if Region.wanted o (yielded ops a.tmps) = true then _ else _
  split
  · rename_i hw; rw [if_pos hw] at this; exact wpIn_of_wp this
  · rename_i hw; rw [if_neg hw] at this; exact ⟨fun _ _ => trivial, this⟩
theorem wpAnyIn_inv9 (I : Array Bool → Act → World → Prop)
    (hstep : ∀ listed a w i, listed.size = ops.size → i ∈ Region.ready md ops listed → I listed a w → wpOpIn Fence.wide n P ops Q i (fun a' w' => I (listed.setIfInBounds i true) a' w') a w)
    (hend : ∀ listed a w, listed.size = ops.size → Region.ready md ops listed = [] → I listed a w → Q .normal a w) :
    ∀ (fuel : Nat) (listed : Array Bool) (a : Act) (w : World), listed.size = ops.size → listed.toList.count false ≤ fuel → I listed a w → wpAnyIn Fence.wide n P md ops Q fuel listed a w := by
  intro fuel
  induction fuel with
  | zero =>
    intro listed a w hs hc h
    have hr : Region.ready md ops listed = [] := by
      apply List.eq_nil_iff_forall_not_mem.2
      intro i hi
      have := List.count_pos_iff.2 (List.mem_of_getElem? (ready_slot hs hi))
      omega
    exact ⟨hr, hend listed a w hs hr h⟩
  | succ fuel ih =>
    intro listed a w hs hc h
    refine ⟨fun hr => hend listed a w hs hr h, fun i hi => wpOpIn_mono (fun a' w' h' => ih _ a' w' (by simpa using hs) ?_ h') (hstep listed a w i hs hi h)⟩
    have := count_set_true _ i (ready_slot hs hi)
    rw [Array.toList_setIfInBounds]
    omega

end
/-- **One goal for each operation**: of what values it makes, for whatever values of their kinds the others have made; and one for what stands behind. -/
theorem wp_region_inv_round {n lr : Nat} {P : Program} {Q : Exit → Act → World → Prop} {id : Nat} {l : List Oper} {a0 : Act} {w0 : World} (S : Nat → World → Value → Prop) (R : World → World → Prop) (C : Array Bool → World → Prop) (hm : P.follows .mixedOrders = true) (hd : plainB l.toArray = true) (hB : invB a0.tmps.size 0 l = true)
    (hC : C (Array.replicate l.toArray.size false) w0.drew) (hst : ∀ j w w' v, R w w' → S j w v → S j w' v) (hops : OpsOK P Q S R C l a0 0 l)
    (hend : ∀ listed w, (∀ i, i < l.length → listed.getD i false = true) → C listed w → EndsP Q S w 0 l a0) : (Code.region id l.toArray true).wpIn (Fence.wide.inRound lr) n P Q a0 w0 := by
  have hsp := invB_spec l 0 hB
  refine wpIn_region_any hm (wpAnyIn_round hd _ _ _ _ (wpAnyIn_inv9 (InvS l S C a0) ?_ ?_ _ _ _ _ (by simp) (by simp) ?_))
  · intro listed a w i hs hi hI
    obtain ⟨h0, o, ho, hall⟩ := mem_ready.1 hi
    have ho' : l[i]? = some o := by simpa using ho
    have hil : i < listed.size := by rw [hs]; exact (Array.getElem?_eq_some_iff.1 ho).1
    have h0f : listed.getD i false = false := by simpa [hil] using h0
    obtain ⟨hdd, hback⟩ := hsp i o ho'
    have hok := OpsOK.at l 0 hops i o ho'
    rw [Nat.zero_add] at hok
    refine wpOpIn_step9 ho fun K' hK' => hok listed a w hI.cls (by rw [hs]; simp) h0f (fun j p hj hw => ?_) (fun t v ht h => ?_) (fun j e hw he => ?_) _ fun v w' hR hc hv => hK' _ _ ?_
    · cases hlj : listed.getD j false with
      | false => rfl
      | true =>
        unfold waitsB at hw
        obtain ⟨ed, hed, hb⟩ := Array.any_eq_true'.1 hw
        simp only [Bool.and_eq_true, beq_iff_eq] at hb
        have := hI.closed j p hj hlj ed hed hb.1
        rw [hb.2, h0f] at this
        cases this
    · rw [← h, Array.getD_eq_getD_getElem?, Array.getD_eq_getD_getElem?, hI.same t ht]
    · unfold waitsB at hw
      obtain ⟨ed, hed, hb⟩ := Array.any_eq_true'.1 hw
      simp only [Bool.and_eq_true, beq_iff_eq] at hb
      obtain ⟨u, hu1, hu2⟩ := hI.slot j e he (by rw [← hb.2]; exact hall ed hed hb.1)
      exact ⟨u, by rw [Array.getD_eq_getD_getElem?, hu1]; rfl, hu2⟩
    · have hnot : ∀ t, nobodyB l t = true → o.dst ≠ some t := fun t ht hd => nobody_iff ht i (by unfold dstOf; simp [ho', hd])
      have hput : ∀ t, o.dst ≠ some t → (a.put o.dst v).tmps[t]? = a.tmps[t]? := fun t ht => by
        cases hd : o.dst with
        | none => rfl
        | some d =>
          simp only [Act.put]
          rw [Array.getElem?_setIfInBounds_ne (fun e => ht (by rw [hd, e]))]
      have hsz : (a.put o.dst v).tmps.size = a.tmps.size := by cases o.dst <;> simp [Act.put]
      refine ⟨hc, by rw [← hI.defers]; cases o.dst <;> rfl, by rw [hsz]; exact hI.size, fun t ht => (hput t (hnot t ht)).trans (hI.same t ht), fun j e he hl => ?_, fun j p hj hl ed hed hb => ?_⟩
      · by_cases hji : j = i
        · subst hji
          have hed : o.dst = some e := by unfold dstOf at he; simp [ho'] at he; exact he
          refine ⟨v, ?_, hv (by rw [hed]; rfl)⟩
          rw [hed]
          simp only [Act.put]
          rw [Array.getElem?_setIfInBounds_self_of_lt (by rw [hI.size]; exact (hdd e hed).1)]
        · rw [getD_set_ne false (Ne.symm hji)] at hl
          obtain ⟨u, hu1, hu2⟩ := hI.slot j e he hl
          refine ⟨u, ?_, hst j w w' u hR hu2⟩
          refine (hput e (fun hd => ?_)).trans hu1
          unfold dstOf at he
          obtain ⟨p, hp, hpd⟩ := Option.bind_eq_some_iff.1 he
          have hp' : l[j]? = some p := by simpa using hp
          rcases Nat.lt_or_ge i j with hlt | hge
          · exact (hdd e hd).2 j p hp' hlt hpd
          · exact ((hsp j p hp').1 e hpd).2 i o ho' (by omega) hd
      · by_cases hji : j = i
        · subst hji
          rw [ho'] at hj
          injection hj with hj
          subst hj
          exact getD_set_true (hall ed hed hb)
        · rw [getD_set_ne false (Ne.symm hji)] at hl
          exact getD_set_true (hI.closed j p hj hl ed hed hb)
  · intro listed a w hs hr hI
    have hallL : ∀ i, i < l.length → listed.getD i false = true := by
      intro i
      induction i using Nat.strongRecOn with
      | _ i ih =>
        intro hi
        by_cases hli : listed.getD i false = true
        · exact hli
        · exfalso
          obtain ⟨o, ho⟩ : ∃ o, l[i]? = some o := ⟨_, List.getElem?_eq_getElem hi⟩
          obtain ⟨_, hback⟩ := hsp i o ho
          have hmem : i ∈ Region.ready .any l.toArray listed := mem_ready.2 ⟨by
            have hlt : i < listed.size := by rw [hs]; simpa using hi
            simp [hlt] at hli ⊢
            exact hli, o, by simpa using ho, fun e he hb => ih e.on (by have := hback e he hb; omega) (by have := hback e he hb; omega)⟩
          rw [hr] at hmem
          cases hmem
    refine ends_of l 0 a0 a _ (hend listed w hallL hI.cls) hB rfl hI.defers hI.size hI.same (fun i d hd => ?_)
    have hi : i < l.length := by
      unfold dstOf at hd
      obtain ⟨p, hp, _⟩ := Option.bind_eq_some_iff.1 hd
      have := (Array.getElem?_eq_some_iff.1 hp).1
      simpa using this
    rw [Nat.zero_add]
    exact hI.slot i d hd (hallL i hi)
  · have hno : ∀ j, (Array.replicate l.toArray.size false).getD j false = false := fun j => by
      rcases Nat.lt_or_ge j l.length with hj | hj
      · simp [hj]
      · simp [Nat.not_lt.2 hj]
    exact ⟨hC, rfl, rfl, fun _ _ => rfl, (fun j d _ h => by rw [hno] at h; cases h), (fun j o _ h => by rw [hno] at h; cases h)⟩
end Go.Proofs.YtbofbkndmnidpaaDoor

namespace Go.Proofs.YtbofbkndmnidpaaDoor
open Go.RowKit

section
variable {P : Program}
/-- What is asked of operation o, number i, where it is carried out, slots as in a0 but for what has come up; C: what holds of the world once these have come up; R: what an operation may do. -/
def OpWP2 (P : Program) (Q : Exit → Act → World → Prop) (S : Nat → World → Value → Prop) (R : Nat → World → World → Prop) (C : Array Bool → World → Prop) (l : List Oper) (a0 : Act) (i : Nat) (o : Oper) : Prop :=
  ∀ (listed : Array Bool) (a : Act) (w : World), C listed w → listed.size = l.length → listed.getD i false = false → (∀ j p, l[j]? = some p → waitsB p i = true → listed.getD j false = false) →
    (∀ t v, nobodyB l t = true → a0.tmps.getD t undef = v → a.tmps.getD t undef = v) →
    (∀ j d, waitsB o j = true → dstOf l.toArray j = some d → ∃ v, a.tmps.getD d undef = v ∧ S j w v) →
    ∀ K : Act → World → Prop, (∀ v w', R i w w' → C (listed.setIfInBounds i true) w' → (o.dst.isSome = true → S i w' v) → K (a.put o.dst v) w') → o.wp P a w K Q
/-- The same, whether it is carried out or not. -/
def OpOK2 (P : Program) (Q : Exit → Act → World → Prop) (S : Nat → World → Value → Prop) (R : Nat → World → World → Prop) (C : Array Bool → World → Prop) (l : List Oper) (a0 : Act) (i : Nat) (o : Oper) : Prop :=
  ∀ (listed : Array Bool) (a : Act) (w : World), C listed w → listed.size = l.length → listed.getD i false = false → (∀ j p, l[j]? = some p → waitsB p i = true → listed.getD j false = false) →
    (∀ t v, nobodyB l t = true → a0.tmps.getD t undef = v → a.tmps.getD t undef = v) →
    (∀ j d, waitsB o j = true → dstOf l.toArray j = some d → ∃ v, a.tmps.getD d undef = v ∧ S j w v) →
    ∀ K : Act → World → Prop, (∀ v w', R i w w' → C (listed.setIfInBounds i true) w' → (o.dst.isSome = true → S i w' v) → K (a.put o.dst v) w') → if Region.wanted o (yielded l.toArray a.tmps) = true then o.wp P a w K Q else K (a.put o.dst undef) w
section
variable {Q : Exit → Act → World → Prop} {S : Nat → World → Value → Prop} {R : Nat → World → World → Prop} {C : Array Bool → World → Prop} {l : List Oper} {a0 : Act} {i : Nat} {o : Oper}
theorem OpOK2.plain (hg : o.guard = none) (h : OpWP2 P Q S R C l a0 i o) : OpOK2 P Q S R C l a0 i o := fun ls a w h1 hz h2 h3 h4 h5 K hK => by
  rw [if_pos (by simp [Region.wanted, hg])]
  exact h ls a w h1 hz h2 h3 h4 h5 K hK
/-- A guard that says yes, whatever the order. -/
theorem OpOK2.yes {g d : Nat} {b : Bool} (hg : o.guard = some (g, b)) (hw : waitsB o g = true) (hd : dstOf l.toArray g = some d) (hS : ∀ w v, S g w v → v = .bool b) (h : OpWP2 P Q S R C l a0 i o) : OpOK2 P Q S R C l a0 i o := fun ls a w h1 hz h2 h2b h4 h3 K hK => by
  obtain ⟨v, hv, hs⟩ := h3 g d hw hd
  have hb := hS w v hs
  subst hb
  have hy : yielded l.toArray a.tmps g = some b := by
    unfold yielded
    unfold dstOf at hd
    rw [hd]
    rw [Array.getD_eq_getD_getElem?] at hv
    cases ht : a.tmps[d]? with
    | none => rw [ht] at hv; cases hv
    | some u =>
      rw [ht] at hv
      have hu : u = .bool b := hv
      subst hu
      simp [ht]
  rw [if_pos (by simp [Region.wanted, hg, hy])]
  exact h ls a w h1 hz h2 h2b h4 h3 K hK
end
def OpsOK2 (P : Program) (Q : Exit → Act → World → Prop) (S : Nat → World → Value → Prop) (R : Nat → World → World → Prop) (C : Array Bool → World → Prop) (l : List Oper) (a0 : Act) : Nat → List Oper → Prop
  | _, [] => True
  | i, o :: r => OpOK2 P Q S R C l a0 i o ∧ OpsOK2 P Q S R C l a0 (i + 1) r
theorem OpsOK2.at {Q : Exit → Act → World → Prop} {S : Nat → World → Value → Prop} {R : Nat → World → World → Prop} {C : Array Bool → World → Prop} {l : List Oper} {a0 : Act} : ∀ (r : List Oper) (k : Nat), OpsOK2 P Q S R C l a0 k r → ∀ i o, r[i]? = some o → OpOK2 P Q S R C l a0 (k + i) o
  | [], _, _, i, o, h => by simp at h
  | p :: r, k, hh, 0, o, h => by
    have : p = o := by simpa using h
    subst this
    exact hh.1
  | p :: r, k, hh, i + 1, o, h => by
    have := OpsOK2.at r (k + 1) hh.2 i o (by simpa using h)
    rwa [show k + 1 + i = k + (i + 1) by omega] at this
/-- **One goal for each operation**: of what values it makes, for whatever values of their kinds the others have made; and one for what stands behind. -/
theorem wp_region_inv2 {P : Program} {Q : Exit → Act → World → Prop} {id : Nat} {l : List Oper} {a0 : Act} {w0 : World} (S : Nat → World → Value → Prop) (R : Nat → World → World → Prop) (C : Array Bool → World → Prop) (hm : P.follows .mixedOrders = true) (hB : invB a0.tmps.size 0 l = true)
    (hC : C (Array.replicate l.toArray.size false) w0.drew) (hst : ∀ i j w w' v, j ≠ i → R i w w' → S j w v → S j w' v) (hops : OpsOK2 P Q S R C l a0 0 l)
    (hend : ∀ listed w, (∀ i, i < l.length → listed.getD i false = true) → C listed w → EndsP Q S w 0 l a0) : (Code.region id l.toArray true).wp P Q a0 w0 := by
  have hsp := invB_spec l 0 hB
  refine wp_region_any hm (wpAny_inv (InvS l S C a0) ?_ ?_ _ _ _ _ (by simp) (by simp) ?_)
  · intro listed a w i hs hi hI
    obtain ⟨h0, o, ho, hall⟩ := mem_ready.1 hi
    have ho' : l[i]? = some o := by simpa using ho
    have hil : i < listed.size := by rw [hs]; exact (Array.getElem?_eq_some_iff.1 ho).1
    have h0f : listed.getD i false = false := by simpa [hil] using h0
    obtain ⟨hdd, hback⟩ := hsp i o ho'
    have hok := OpsOK2.at l 0 hops i o ho'
    rw [Nat.zero_add] at hok
    refine wpOp_step ho fun K' hK' => hok listed a w hI.cls (by rw [hs]; simp) h0f (fun j p hj hw => ?_) (fun t v ht h => ?_) (fun j e hw he => ?_) _ fun v w' hR hc hv => hK' _ _ ?_
    · cases hlj : listed.getD j false with
      | false => rfl
      | true =>
        unfold waitsB at hw
        obtain ⟨ed, hed, hb⟩ := Array.any_eq_true'.1 hw
        simp only [Bool.and_eq_true, beq_iff_eq] at hb
        have := hI.closed j p hj hlj ed hed hb.1
        rw [hb.2, h0f] at this
        cases this
    · rw [← h, Array.getD_eq_getD_getElem?, Array.getD_eq_getD_getElem?, hI.same t ht]
    · unfold waitsB at hw
      obtain ⟨ed, hed, hb⟩ := Array.any_eq_true'.1 hw
      simp only [Bool.and_eq_true, beq_iff_eq] at hb
      obtain ⟨u, hu1, hu2⟩ := hI.slot j e he (by rw [← hb.2]; exact hall ed hed hb.1)
      exact ⟨u, by rw [Array.getD_eq_getD_getElem?, hu1]; rfl, hu2⟩
    · have hnot : ∀ t, nobodyB l t = true → o.dst ≠ some t := fun t ht hd => nobody_iff ht i (by unfold dstOf; simp [ho', hd])
      have hput : ∀ t, o.dst ≠ some t → (a.put o.dst v).tmps[t]? = a.tmps[t]? := fun t ht => by
        cases hd : o.dst with
        | none => rfl
        | some d =>
          simp only [Act.put]
          rw [Array.getElem?_setIfInBounds_ne (fun e => ht (by rw [hd, e]))]
      have hsz : (a.put o.dst v).tmps.size = a.tmps.size := by cases o.dst <;> simp [Act.put]
      refine ⟨hc, by rw [← hI.defers]; cases o.dst <;> rfl, by rw [hsz]; exact hI.size, fun t ht => (hput t (hnot t ht)).trans (hI.same t ht), fun j e he hl => ?_, fun j p hj hl ed hed hb => ?_⟩
      · by_cases hji : j = i
        · subst hji
          have hed : o.dst = some e := by unfold dstOf at he; simp [ho'] at he; exact he
          refine ⟨v, ?_, hv (by rw [hed]; rfl)⟩
          rw [hed]
          simp only [Act.put]
          rw [Array.getElem?_setIfInBounds_self_of_lt (by rw [hI.size]; exact (hdd e hed).1)]
        · rw [getD_set_ne false (Ne.symm hji)] at hl
          obtain ⟨u, hu1, hu2⟩ := hI.slot j e he hl
          refine ⟨u, ?_, hst i j w w' u hji hR hu2⟩
          refine (hput e (fun hd => ?_)).trans hu1
          unfold dstOf at he
          obtain ⟨p, hp, hpd⟩ := Option.bind_eq_some_iff.1 he
          have hp' : l[j]? = some p := by simpa using hp
          rcases Nat.lt_or_ge i j with hlt | hge
          · exact (hdd e hd).2 j p hp' hlt hpd
          · exact ((hsp j p hp').1 e hpd).2 i o ho' (by omega) hd
      · by_cases hji : j = i
        · subst hji
          rw [ho'] at hj
          injection hj with hj
          subst hj
          exact getD_set_true (hall ed hed hb)
        · rw [getD_set_ne false (Ne.symm hji)] at hl
          exact getD_set_true (hI.closed j p hj hl ed hed hb)
  · intro listed a w hs hr hI
    have hallL : ∀ i, i < l.length → listed.getD i false = true := by
      intro i
      induction i using Nat.strongRecOn with
      | _ i ih =>
        intro hi
        by_cases hli : listed.getD i false = true
        · exact hli
        · exfalso
          obtain ⟨o, ho⟩ : ∃ o, l[i]? = some o := ⟨_, List.getElem?_eq_getElem hi⟩
          obtain ⟨_, hback⟩ := hsp i o ho
          have hmem : i ∈ Region.ready .any l.toArray listed := mem_ready.2 ⟨by
            have hlt : i < listed.size := by rw [hs]; simpa using hi
            simp [hlt] at hli ⊢
            exact hli, o, by simpa using ho, fun e he hb => ih e.on (by have := hback e he hb; omega) (by have := hback e he hb; omega)⟩
          rw [hr] at hmem
          cases hmem
    refine ends_of l 0 a0 a _ (hend listed w hallL hI.cls) hB rfl hI.defers hI.size hI.same (fun i d hd => ?_)
    have hi : i < l.length := by
      unfold dstOf at hd
      obtain ⟨p, hp, _⟩ := Option.bind_eq_some_iff.1 hd
      have := (Array.getElem?_eq_some_iff.1 hp).1
      simpa using this
    rw [Nat.zero_add]
    exact hI.slot i d hd (hallL i hi)
  · have hno : ∀ j, (Array.replicate l.toArray.size false).getD j false = false := fun j => by
      rcases Nat.lt_or_ge j l.length with hj | hj
      · simp [hj]
      · simp [Nat.not_lt.2 hj]
    exact ⟨hC, rfl, rfl, fun _ _ => rfl, (fun j d _ h => by rw [hno] at h; cases h), (fun j o _ h => by rw [hno] at h; cases h)⟩
/-- **One goal for each operation**: of what values it makes, for whatever values of their kinds the others have made; and one for what stands behind. -/
theorem wp_region_inv_round2 {n lr : Nat} {P : Program} {Q : Exit → Act → World → Prop} {id : Nat} {l : List Oper} {a0 : Act} {w0 : World} (S : Nat → World → Value → Prop) (R : Nat → World → World → Prop) (C : Array Bool → World → Prop) (hm : P.follows .mixedOrders = true) (hd : plainB l.toArray = true) (hB : invB a0.tmps.size 0 l = true)
    (hC : C (Array.replicate l.toArray.size false) w0.drew) (hst : ∀ i j w w' v, j ≠ i → R i w w' → S j w v → S j w' v) (hops : OpsOK2 P Q S R C l a0 0 l)
    (hend : ∀ listed w, (∀ i, i < l.length → listed.getD i false = true) → C listed w → EndsP Q S w 0 l a0) : (Code.region id l.toArray true).wpIn (Fence.wide.inRound lr) n P Q a0 w0 := by
  have hsp := invB_spec l 0 hB
  refine wpIn_region_any hm (wpAnyIn_round hd _ _ _ _ (wpAnyIn_inv9 (InvS l S C a0) ?_ ?_ _ _ _ _ (by simp) (by simp) ?_))
  · intro listed a w i hs hi hI
    obtain ⟨h0, o, ho, hall⟩ := mem_ready.1 hi
    have ho' : l[i]? = some o := by simpa using ho
    have hil : i < listed.size := by rw [hs]; exact (Array.getElem?_eq_some_iff.1 ho).1
    have h0f : listed.getD i false = false := by simpa [hil] using h0
    obtain ⟨hdd, hback⟩ := hsp i o ho'
    have hok := OpsOK2.at l 0 hops i o ho'
    rw [Nat.zero_add] at hok
    refine wpOpIn_step9 ho fun K' hK' => hok listed a w hI.cls (by rw [hs]; simp) h0f (fun j p hj hw => ?_) (fun t v ht h => ?_) (fun j e hw he => ?_) _ fun v w' hR hc hv => hK' _ _ ?_
    · cases hlj : listed.getD j false with
      | false => rfl
      | true =>
        unfold waitsB at hw
        obtain ⟨ed, hed, hb⟩ := Array.any_eq_true'.1 hw
        simp only [Bool.and_eq_true, beq_iff_eq] at hb
        have := hI.closed j p hj hlj ed hed hb.1
        rw [hb.2, h0f] at this
        cases this
    · rw [← h, Array.getD_eq_getD_getElem?, Array.getD_eq_getD_getElem?, hI.same t ht]
    · unfold waitsB at hw
      obtain ⟨ed, hed, hb⟩ := Array.any_eq_true'.1 hw
      simp only [Bool.and_eq_true, beq_iff_eq] at hb
      obtain ⟨u, hu1, hu2⟩ := hI.slot j e he (by rw [← hb.2]; exact hall ed hed hb.1)
      exact ⟨u, by rw [Array.getD_eq_getD_getElem?, hu1]; rfl, hu2⟩
    · have hnot : ∀ t, nobodyB l t = true → o.dst ≠ some t := fun t ht hd => nobody_iff ht i (by unfold dstOf; simp [ho', hd])
      have hput : ∀ t, o.dst ≠ some t → (a.put o.dst v).tmps[t]? = a.tmps[t]? := fun t ht => by
        cases hd : o.dst with
        | none => rfl
        | some d =>
          simp only [Act.put]
          rw [Array.getElem?_setIfInBounds_ne (fun e => ht (by rw [hd, e]))]
      have hsz : (a.put o.dst v).tmps.size = a.tmps.size := by cases o.dst <;> simp [Act.put]
      refine ⟨hc, by rw [← hI.defers]; cases o.dst <;> rfl, by rw [hsz]; exact hI.size, fun t ht => (hput t (hnot t ht)).trans (hI.same t ht), fun j e he hl => ?_, fun j p hj hl ed hed hb => ?_⟩
      · by_cases hji : j = i
        · subst hji
          have hed : o.dst = some e := by unfold dstOf at he; simp [ho'] at he; exact he
          refine ⟨v, ?_, hv (by rw [hed]; rfl)⟩
          rw [hed]
          simp only [Act.put]
          rw [Array.getElem?_setIfInBounds_self_of_lt (by rw [hI.size]; exact (hdd e hed).1)]
        · rw [getD_set_ne false (Ne.symm hji)] at hl
          obtain ⟨u, hu1, hu2⟩ := hI.slot j e he hl
          refine ⟨u, ?_, hst i j w w' u hji hR hu2⟩
          refine (hput e (fun hd => ?_)).trans hu1
          unfold dstOf at he
          obtain ⟨p, hp, hpd⟩ := Option.bind_eq_some_iff.1 he
          have hp' : l[j]? = some p := by simpa using hp
          rcases Nat.lt_or_ge i j with hlt | hge
          · exact (hdd e hd).2 j p hp' hlt hpd
          · exact ((hsp j p hp').1 e hpd).2 i o ho' (by omega) hd
      · by_cases hji : j = i
        · subst hji
          rw [ho'] at hj
          injection hj with hj
          subst hj
          exact getD_set_true (hall ed hed hb)
        · rw [getD_set_ne false (Ne.symm hji)] at hl
          exact getD_set_true (hI.closed j p hj hl ed hed hb)
  · intro listed a w hs hr hI
    have hallL : ∀ i, i < l.length → listed.getD i false = true := by
      intro i
      induction i using Nat.strongRecOn with
      | _ i ih =>
        intro hi
        by_cases hli : listed.getD i false = true
        · exact hli
        · exfalso
          obtain ⟨o, ho⟩ : ∃ o, l[i]? = some o := ⟨_, List.getElem?_eq_getElem hi⟩
          obtain ⟨_, hback⟩ := hsp i o ho
          have hmem : i ∈ Region.ready .any l.toArray listed := mem_ready.2 ⟨by
            have hlt : i < listed.size := by rw [hs]; simpa using hi
            simp [hlt] at hli ⊢
            exact hli, o, by simpa using ho, fun e he hb => ih e.on (by have := hback e he hb; omega) (by have := hback e he hb; omega)⟩
          rw [hr] at hmem
          cases hmem
    refine ends_of l 0 a0 a _ (hend listed w hallL hI.cls) hB rfl hI.defers hI.size hI.same (fun i d hd => ?_)
    have hi : i < l.length := by
      unfold dstOf at hd
      obtain ⟨p, hp, _⟩ := Option.bind_eq_some_iff.1 hd
      have := (Array.getElem?_eq_some_iff.1 hp).1
      simpa using this
    rw [Nat.zero_add]
    exact hI.slot i d hd (hallL i hi)
  · have hno : ∀ j, (Array.replicate l.toArray.size false).getD j false = false := fun j => by
      rcases Nat.lt_or_ge j l.length with hj | hj
      · simp [hj]
      · simp [Nat.not_lt.2 hj]
    exact ⟨hC, rfl, rfl, fun _ _ => rfl, (fun j d _ h => by rw [hno] at h; cases h), (fun j o _ h => by rw [hno] at h; cases h)⟩
end
end Go.Proofs.YtbofbkndmnidpaaDoor
