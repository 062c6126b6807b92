/-
  XInvReg's law, where what an operation may do hangs on which it is: what a slot holds must stand what the others do alone. Nothing of the program is named here. What slots, operations and the world are in a region that builds a one-element slice, appends it, and stores the slice. Nothing of the program is named here. Conditions: as each theorem states.
-/
import Derived.Test.YthjllgfceookcaaGreatDoorK06
namespace Go.Proofs.YthjllgfceookcaaGreatDoor
open Go.RowKit

section
variable {P : Program}
/-- What is asked of operation o, number i, where it is carried out, slots as in a0 but for what has come up; C: what holds of the world once these have come up; R: what an operation may do. -/
def OpWP2 (P : Program) (Q : Exit → Act → World → Prop) (S : Nat → World → Value → Prop) (R : Nat → World → World → Prop) (C : Array Bool → World → Prop) (l : List Oper) (a0 : Act) (i : Nat) (o : Oper) : Prop :=
  ∀ (listed : Array Bool) (a : Act) (w : World), C listed w → listed.size = l.length → listed.getD i false = false → (∀ j p, l[j]? = some p → waitsB p i = true → listed.getD j false = false) →
    (∀ t v, nobodyB l t = true → a0.tmps.getD t undef = v → a.tmps.getD t undef = v) →
    (∀ j d, waitsB o j = true → dstOf l.toArray j = some d → ∃ v, a.tmps.getD d undef = v ∧ S j w v) →
    ∀ K : Act → World → Prop, (∀ v w', R i w w' → C (listed.setIfInBounds i true) w' → (o.dst.isSome = true → S i w' v) → K (a.put o.dst v) w') → o.wp P a w K Q
/-- The same, whether it is carried out or not. -/
def OpOK2 (P : Program) (Q : Exit → Act → World → Prop) (S : Nat → World → Value → Prop) (R : Nat → World → World → Prop) (C : Array Bool → World → Prop) (l : List Oper) (a0 : Act) (i : Nat) (o : Oper) : Prop :=
  ∀ (listed : Array Bool) (a : Act) (w : World), C listed w → listed.size = l.length → listed.getD i false = false → (∀ j p, l[j]? = some p → waitsB p i = true → listed.getD j false = false) →
    (∀ t v, nobodyB l t = true → a0.tmps.getD t undef = v → a.tmps.getD t undef = v) →
    (∀ j d, waitsB o j = true → dstOf l.toArray j = some d → ∃ v, a.tmps.getD d undef = v ∧ S j w v) →
    ∀ K : Act → World → Prop, (∀ v w', R i w w' → C (listed.setIfInBounds i true) w' → (o.dst.isSome = true → S i w' v) → K (a.put o.dst v) w') → if Region.wanted o (yielded l.toArray a.tmps) = true then o.wp P a w K Q else K (a.put o.dst undef) w
section
variable {Q : Exit → Act → World → Prop} {S : Nat → World → Value → Prop} {R : Nat → World → World → Prop} {C : Array Bool → World → Prop} {l : List Oper} {a0 : Act} {i : Nat} {o : Oper}
theorem OpOK2.plain (hg : o.guard = none) (h : OpWP2 P Q S R C l a0 i o) : OpOK2 P Q S R C l a0 i o := fun ls a w h1 hz h2 h3 h4 h5 K hK => by
  rw [if_pos (by simp [Region.wanted, hg])]
  exact h ls a w h1 hz h2 h3 h4 h5 K hK
/-- A guard that says yes, whatever the order. -/
theorem OpOK2.yes {g d : Nat} {b : Bool} (hg : o.guard = some (g, b)) (hw : waitsB o g = true) (hd : dstOf l.toArray g = some d) (hS : ∀ w v, S g w v → v = .bool b) (h : OpWP2 P Q S R C l a0 i o) : OpOK2 P Q S R C l a0 i o := fun ls a w h1 hz h2 h2b h4 h3 K hK => by
  obtain ⟨v, hv, hs⟩ := h3 g d hw hd
  have hb := hS w v hs
  subst hb
  have hy : yielded l.toArray a.tmps g = some b := by
    unfold yielded
    unfold dstOf at hd
    rw [hd]
    rw [Array.getD_eq_getD_getElem?] at hv
    cases ht : a.tmps[d]? with
    | none => rw [ht] at hv; cases hv
    | some u =>
      rw [ht] at hv
      have hu : u = .bool b := hv
      subst hu
      simp [ht]
  rw [if_pos (by simp [Region.wanted, hg, hy])]
  exact h ls a w h1 hz h2 h2b h4 h3 K hK
end
def OpsOK2 (P : Program) (Q : Exit → Act → World → Prop) (S : Nat → World → Value → Prop) (R : Nat → World → World → Prop) (C : Array Bool → World → Prop) (l : List Oper) (a0 : Act) : Nat → List Oper → Prop
  | _, [] => True
  | i, o :: r => OpOK2 P Q S R C l a0 i o ∧ OpsOK2 P Q S R C l a0 (i + 1) r
theorem OpsOK2.at {Q : Exit → Act → World → Prop} {S : Nat → World → Value → Prop} {R : Nat → World → World → Prop} {C : Array Bool → World → Prop} {l : List Oper} {a0 : Act} : ∀ (r : List Oper) (k : Nat), OpsOK2 P Q S R C l a0 k r → ∀ i o, r[i]? = some o → OpOK2 P Q S R C l a0 (k + i) o
  | [], _, _, i, o, h => by simp at h
  | p :: r, k, hh, 0, o, h => by
    have : p = o := by simpa using h
    subst this
    exact hh.1
  | p :: r, k, hh, i + 1, o, h => by
    have := OpsOK2.at r (k + 1) hh.2 i o (by simpa using h)
    rwa [show k + 1 + i = k + (i + 1) by omega] at this
/-- **One goal for each operation**: of what values it makes, for whatever values of their kinds the others have made; and one for what stands behind. -/
theorem wp_region_inv2 {P : Program} {Q : Exit → Act → World → Prop} {id : Nat} {l : List Oper} {a0 : Act} {w0 : World} (S : Nat → World → Value → Prop) (R : Nat → World → World → Prop) (C : Array Bool → World → Prop) (hm : P.follows .mixedOrders = true) (hB : invB a0.tmps.size 0 l = true)
    (hC : C (Array.replicate l.toArray.size false) w0.drew) (hst : ∀ i j w w' v, j ≠ i → R i w w' → S j w v → S j w' v) (hops : OpsOK2 P Q S R C l a0 0 l)
    (hend : ∀ listed w, (∀ i, i < l.length → listed.getD i false = true) → C listed w → EndsP Q S w 0 l a0) : (Code.region id l.toArray true).wp P Q a0 w0 := by
  have hsp := invB_spec l 0 hB
  refine wp_region_any hm (wpAny_inv (InvS l S C a0) ?_ ?_ _ _ _ _ (by simp) (by simp) ?_)
  · intro listed a w i hs hi hI
    obtain ⟨h0, o, ho, hall⟩ := mem_ready.1 hi
    have ho' : l[i]? = some o := by simpa using ho
    have hil : i < listed.size := by rw [hs]; exact (Array.getElem?_eq_some_iff.1 ho).1
    have h0f : listed.getD i false = false := by simpa [hil] using h0
    obtain ⟨hdd, hback⟩ := hsp i o ho'
    have hok := OpsOK2.at l 0 hops i o ho'
    rw [Nat.zero_add] at hok
    refine wpOp_step ho fun K' hK' => hok listed a w hI.cls (by rw [hs]; simp) h0f (fun j p hj hw => ?_) (fun t v ht h => ?_) (fun j e hw he => ?_) _ fun v w' hR hc hv => hK' _ _ ?_
    · cases hlj : listed.getD j false with
      | false => rfl
      | true =>
        unfold waitsB at hw
        obtain ⟨ed, hed, hb⟩ := Array.any_eq_true'.1 hw
        simp only [Bool.and_eq_true, beq_iff_eq] at hb
        have := hI.closed j p hj hlj ed hed hb.1
        rw [hb.2, h0f] at this
        cases this
    · rw [← h, Array.getD_eq_getD_getElem?, Array.getD_eq_getD_getElem?, hI.same t ht]
    · unfold waitsB at hw
      obtain ⟨ed, hed, hb⟩ := Array.any_eq_true'.1 hw
      simp only [Bool.and_eq_true, beq_iff_eq] at hb
      obtain ⟨u, hu1, hu2⟩ := hI.slot j e he (by rw [← hb.2]; exact hall ed hed hb.1)
      exact ⟨u, by rw [Array.getD_eq_getD_getElem?, hu1]; rfl, hu2⟩
    · have hnot : ∀ t, nobodyB l t = true → o.dst ≠ some t := fun t ht hd => nobody_iff ht i (by unfold dstOf; simp [ho', hd])
      have hput : ∀ t, o.dst ≠ some t → (a.put o.dst v).tmps[t]? = a.tmps[t]? := fun t ht => by
        cases hd : o.dst with
        | none => rfl
        | some d =>
          simp only [Act.put]
          rw [Array.getElem?_setIfInBounds_ne (fun e => ht (by rw [hd, e]))]
      have hsz : (a.put o.dst v).tmps.size = a.tmps.size := by cases o.dst <;> simp [Act.put]
      refine ⟨hc, by rw [← hI.defers]; cases o.dst <;> rfl, by rw [hsz]; exact hI.size, fun t ht => (hput t (hnot t ht)).trans (hI.same t ht), fun j e he hl => ?_, fun j p hj hl ed hed hb => ?_⟩
      · by_cases hji : j = i
        · subst hji
          have hed : o.dst = some e := by unfold dstOf at he; simp [ho'] at he; exact he
          refine ⟨v, ?_, hv (by rw [hed]; rfl)⟩
          rw [hed]
          simp only [Act.put]
          rw [Array.getElem?_setIfInBounds_self_of_lt (by rw [hI.size]; exact (hdd e hed).1)]
        · rw [getD_set_ne false (Ne.symm hji)] at hl
          obtain ⟨u, hu1, hu2⟩ := hI.slot j e he hl
          refine ⟨u, ?_, hst i j w w' u hji hR hu2⟩
          refine (hput e (fun hd => ?_)).trans hu1
          unfold dstOf at he
          obtain ⟨p, hp, hpd⟩ := Option.bind_eq_some_iff.1 he
          have hp' : l[j]? = some p := by simpa using hp
          rcases Nat.lt_or_ge i j with hlt | hge
          · exact (hdd e hd).2 j p hp' hlt hpd
          · exact ((hsp j p hp').1 e hpd).2 i o ho' (by omega) hd
      · by_cases hji : j = i
        · subst hji
          rw [ho'] at hj
          injection hj with hj
          subst hj
          exact getD_set_true (hall ed hed hb)
        · rw [getD_set_ne false (Ne.symm hji)] at hl
          exact getD_set_true (hI.closed j p hj hl ed hed hb)
  · intro listed a w hs hr hI
    have hallL : ∀ i, i < l.length → listed.getD i false = true := by
      intro i
      induction i using Nat.strongRecOn with
      | _ i ih =>
        intro hi
        by_cases hli : listed.getD i false = true
        · exact hli
        · exfalso
          obtain ⟨o, ho⟩ : ∃ o, l[i]? = some o := ⟨_, List.getElem?_eq_getElem hi⟩
          obtain ⟨_, hback⟩ := hsp i o ho
          have hmem : i ∈ Region.ready .any l.toArray listed := mem_ready.2 ⟨by
            have hlt : i < listed.size := by rw [hs]; simpa using hi
            simp [hlt] at hli ⊢
            exact hli, o, by simpa using ho, fun e he hb => ih e.on (by have := hback e he hb; omega) (by have := hback e he hb; omega)⟩
          rw [hr] at hmem
          cases hmem
    refine ends_of l 0 a0 a _ (hend listed w hallL hI.cls) hB rfl hI.defers hI.size hI.same (fun i d hd => ?_)
    have hi : i < l.length := by
      unfold dstOf at hd
      obtain ⟨p, hp, _⟩ := Option.bind_eq_some_iff.1 hd
      have := (Array.getElem?_eq_some_iff.1 hp).1
      simpa using this
    rw [Nat.zero_add]
    exact hI.slot i d hd (hallL i hi)
  · have hno : ∀ j, (Array.replicate l.toArray.size false).getD j false = false := fun j => by
      rcases Nat.lt_or_ge j l.length with hj | hj
      · simp [hj]
      · simp [Nat.not_lt.2 hj]
    exact ⟨hC, rfl, rfl, fun _ _ => rfl, (fun j d _ h => by rw [hno] at h; cases h), (fun j o _ h => by rw [hno] at h; cases h)⟩
end
end Go.Proofs.YthjllgfceookcaaGreatDoor

namespace Go.Proofs.YthjllgfceookcaaGreatDoor
open Go.RowKit

/-- Slot ib: the one-element slice; ia: the grown one; the others literally. -/
def SB (ib ia g1 : Nat) (PA : World → Value → Prop) (tbl : List Value) (j : Nat) (w : World) (v : Value) : Prop :=
  if j = ib then v = .slice (some ⟨g1, 0, none⟩) 1 1 ∧ g1 < w.heap.size else if j = ia then PA w v else tbl[j]? = some v
def RB (ia iz : Nat) (Z : World → World → Prop) (i : Nat) (w w' : World) : Prop := if i = ia then w.heap.size ≤ w'.heap.size else if i = iz then Z w w' else w.grownBy w' none
def CB (ib ia iz : Nat) (W0 W1 : World) (u0 : Value) (FIN : World → Prop) (ls : Array Bool) (w : World) : Prop :=
  if ls.getD iz false = true then FIN w else if ls.getD ia false = true then W0.grownBy w u0.ownBlock else w = if ls.getD ib false = true then W1 else W0
theorem getD_set_self {ls : Array Bool} {i : Nat} (h : i < ls.size) : (ls.setIfInBounds i true).getD i false = true := by
  rw [Array.getD_eq_getD_getElem?, Array.getElem?_setIfInBounds_self_of_lt h]
  rfl
theorem grown_refl (w : World) (r : Option Nat) : w.grownBy w r := ⟨rfl, rfl, rfl, Nat.le_refl _, fun _ _ _ => rfl⟩
theorem grown_none {w w' : World} {r : Option Nat} (h : w.grownBy w' none) : w.grownBy w' r := ⟨h.os, h.tape, h.output, h.size, fun k hk _ => h.block k hk (by simp)⟩
section
variable {ib ia iz g1 : Nat} {PA : World → Value → Prop} {tbl : List Value} {j i : Nat} {w w' : World} {v : Value} {Z : World → World → Prop} {W0 W1 : World} {u0 : Value} {FIN : World → Prop} {ls : Array Bool}
theorem SB.lit (h : SB ib ia g1 PA tbl j w v) (h1 : j ≠ ib) (h2 : j ≠ ia) : tbl[j]? = some v := by
  unfold SB at h
  rwa [if_neg h1, if_neg h2] at h
theorem SB.mk (h : tbl[j]? = some v) (h1 : j ≠ ib) (h2 : j ≠ ia) : SB ib ia g1 PA tbl j w v := by
  unfold SB
  rwa [if_neg h1, if_neg h2]
theorem SB.one (h : SB ib ia g1 PA tbl ib w v) : v = .slice (some ⟨g1, 0, none⟩) 1 1 ∧ g1 < w.heap.size := by
  unfold SB at h
  rwa [if_pos rfl] at h
theorem SB.mkOne (h : v = .slice (some ⟨g1, 0, none⟩) 1 1) (h' : g1 < w.heap.size) : SB ib ia g1 PA tbl ib w v := by
  unfold SB
  rw [if_pos rfl]
  exact ⟨h, h'⟩
theorem SB.all (h : SB ib ia g1 PA tbl ia w v) (hne : ia ≠ ib) : PA w v := by
  unfold SB at h
  rwa [if_neg hne, if_pos rfl] at h
theorem SB.mkAll (h : PA w v) (hne : ia ≠ ib) : SB ib ia g1 PA tbl ia w v := by
  unfold SB
  rwa [if_neg hne, if_pos rfl]
theorem SB.stands (hP : ∀ w w' v, w.grownBy w' none → PA w v → PA w' v) (hZ : ∀ w w' v, Z w w' → PA w v → PA w' v) (hZs : ∀ w w', Z w w' → w.heap.size ≤ w'.heap.size) (hne : j ≠ i) (hR : RB ia iz Z i w w') (h : SB ib ia g1 PA tbl j w v) : SB ib ia g1 PA tbl j w' v := by
  unfold SB at h ⊢
  unfold RB at hR
  have hs : w.heap.size ≤ w'.heap.size := by
    split at hR
    · exact hR
    · split at hR
      · exact hZs _ _ hR
      · exact hR.size
  by_cases h1 : j = ib
  · rw [if_pos h1] at h ⊢
    exact ⟨h.1, Nat.lt_of_lt_of_le h.2 hs⟩
  · rw [if_neg h1] at h ⊢
    by_cases h2 : j = ia
    · rw [if_pos h2] at h ⊢
      rw [if_neg (fun e => hne (h2.trans e.symm))] at hR
      split at hR
      · exact hZ _ _ _ hR h
      · exact hP _ _ _ hR h
    · rw [if_neg h2] at h ⊢
      exact h
theorem RB.quiet (h : w.grownBy w' none) (h1 : i ≠ ia) (h2 : i ≠ iz) : RB ia iz Z i w w' := by
  unfold RB
  rwa [if_neg h1, if_neg h2]
theorem RB.all (h : w.heap.size ≤ w'.heap.size) : RB ia iz Z ia w w' := by
  unfold RB
  rwa [if_pos rfl]
theorem RB.last (h : Z w w') (hne : iz ≠ ia) : RB ia iz Z iz w w' := by
  unfold RB
  rwa [if_neg hne, if_pos rfl]
theorem CB.start {n : Nat} : CB ib ia iz W0 W1 u0 FIN (Array.replicate n false) W0 := by
  have h : ∀ k, (Array.replicate n false).getD k false = false := fun k => by
    rcases Nat.lt_or_ge k n with hj | hj
    · simp [hj]
    · simp [Nat.not_lt.2 hj]
  unfold CB
  rw [h, h, h, if_neg (by decide), if_neg (by decide), if_neg (by decide)]
theorem CB.keep (h : CB ib ia iz W0 W1 u0 FIN ls w) (h1 : i ≠ ib) (h2 : i ≠ ia) (h3 : i ≠ iz) : CB ib ia iz W0 W1 u0 FIN (ls.setIfInBounds i true) w := by
  unfold CB at h ⊢
  rwa [getD_set_ne false h1, getD_set_ne false h2, getD_set_ne false h3]
theorem CB.grown (h : CB ib ia iz W0 W1 u0 FIN ls w) (hz : ls.getD iz false = false) (h01 : W0.grownBy W1 none) : W0.grownBy w u0.ownBlock := by
  unfold CB at h
  rw [if_neg (by rw [hz]; decide)] at h
  split at h
  · exact h
  · rw [h]
    split
    · exact grown_none h01
    · exact grown_refl _ _
theorem CB.early (h : CB ib ia iz W0 W1 u0 FIN ls w) (hz : ls.getD iz false = false) (ha : ls.getD ia false = false) : w = W1 ∨ w = W0 := by
  unfold CB at h
  rw [if_neg (by rw [hz]; decide), if_neg (by rw [ha]; decide)] at h
  rw [h]
  split
  · exact .inl rfl
  · exact .inr rfl
theorem CB.build (h : CB ib ia iz W0 W1 u0 FIN ls w) (hz : ls.getD iz false = false) (ha : ls.getD ia false = false) (hb : ls.getD ib false = false) (hi : ib < ls.size) (h1 : ia ≠ ib) (h2 : iz ≠ ib) : w = W0 ∧ CB ib ia iz W0 W1 u0 FIN (ls.setIfInBounds ib true) W1 := by
  unfold CB at h ⊢
  rw [if_neg (by rw [hz]; decide), if_neg (by rw [ha]; decide), if_neg (by rw [hb]; decide)] at h
  rw [getD_set_ne false (Ne.symm h1), getD_set_ne false (Ne.symm h2), if_neg (by rw [hz]; decide), if_neg (by rw [ha]; decide), getD_set_self hi, if_pos rfl]
  exact ⟨h, rfl⟩
theorem CB.grow (hz : ls.getD iz false = false) (hi : ia < ls.size) (h1 : iz ≠ ia) (hg : W0.grownBy w u0.ownBlock) : CB ib ia iz W0 W1 u0 FIN (ls.setIfInBounds ia true) w := by
  unfold CB
  rw [getD_set_ne false (Ne.symm h1), if_neg (by rw [hz]; decide), getD_set_self hi, if_pos rfl]
  exact hg
theorem CB.last (hi : iz < ls.size) (hf : FIN w) : CB ib ia iz W0 W1 u0 FIN (ls.setIfInBounds iz true) w := by
  unfold CB
  rw [getD_set_self hi, if_pos rfl]
  exact hf
theorem CB.fin (h : CB ib ia iz W0 W1 u0 FIN ls w) (hz : ls.getD iz false = true) : FIN w := by
  unfold CB at h
  rwa [hz, if_pos rfl] at h
end
end Go.Proofs.YthjllgfceookcaaGreatDoor
