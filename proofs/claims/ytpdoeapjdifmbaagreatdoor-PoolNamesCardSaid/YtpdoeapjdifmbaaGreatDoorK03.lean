/-
  A region that draws its order, each operation of which yields, in whatever order, a value of its own kind, of which the others keep what holds: one goal for each operation, none for the orders. Nothing of the program is named here. The walk over the document's copy of a package (layer 10). What a pool is in memory: its rows, and its map of numbers by name (layer 12). Conditions: as each theorem states.
-/
import Derived.Test.YtpdoeapjdifmbaaGreatDoorK01
import Derived.RegionTactic
import Derived.Test.YtpdoeapjdifmbaaGreatDoorK02
import Derived.ArgAppend
import Derived.Maps.GroupsBeside
namespace Go.Proofs.YtpdoeapjdifmbaaGreatDoor
open Go.RowKit

theorem count_set_true : ∀ (l : List Bool) (i : Nat), l[i]? = some false → (l.set i true).count false + 1 = l.count false
  | [], i, h => by simp at h
  | b :: l, 0, h => by
    have hb : b = false := by simpa using h
    subst hb
    simp
  | b :: l, i + 1, h => by
    have h1 := count_set_true l i (by simpa using h)
    rw [List.set_cons_succ, List.count_cons, List.count_cons]
    omega
section
variable {P : Program} {ops : Array Oper} {md : Region.Mode} {Q : Exit → Act → World → Prop}
theorem ready_slot {listed : Array Bool} {i : Nat} (hs : listed.size = ops.size) (hi : i ∈ Region.ready md ops listed) : listed.toList[i]? = some false := by
  obtain ⟨h0, o, ho, _⟩ := mem_ready.1 hi
  have hlt : i < listed.size := by rw [hs]; exact (Array.getElem?_eq_some_iff.1 ho).1
  rw [Array.getElem?_toList, Array.getElem?_eq_getElem hlt]
  simpa [hlt] using h0
theorem wpAny_inv (I : Array Bool → Act → World → Prop)
    (hstep : ∀ listed a w i, listed.size = ops.size → i ∈ Region.ready md ops listed → I listed a w → wpOp P ops Q i (fun a' w' => I (listed.setIfInBounds i true) a' w') a w)
    (hend : ∀ listed a w, listed.size = ops.size → Region.ready md ops listed = [] → I listed a w → Q .normal a w) :
    ∀ (fuel : Nat) (listed : Array Bool) (a : Act) (w : World), listed.size = ops.size → listed.toList.count false ≤ fuel → I listed a w → wpAny P md ops Q fuel listed a w := by
  intro fuel
  induction fuel with
  | zero =>
    intro listed a w hs hc h
    have hr : Region.ready md ops listed = [] := by
      apply List.eq_nil_iff_forall_not_mem.2
      intro i hi
      have := List.count_pos_iff.2 (List.mem_of_getElem? (ready_slot hs hi))
      omega
    exact ⟨hr, hend listed a w hs hr h⟩
  | succ fuel ih =>
    intro listed a w hs hc h
    refine ⟨fun hr => hend listed a w hs hr h, fun i hi => wpOp_mono (fun a' w' h' => ih _ a' w' (by simpa using hs) ?_ h') (hstep listed a w i hs hi h)⟩
    have := count_set_true _ i (ready_slot hs hi)
    rw [Array.toList_setIfInBounds]
    omega

def dstOf (ops : Array Oper) (j : Nat) : Option Tmp := (ops[j]?).bind (·.dst)
/-- Does operation o wait for number j? -/
def waitsB (o : Oper) (j : Nat) : Bool := o.after.any fun e => Region.binds .any e && e.on == j
/-- Is slot t nobody's? -/
def nobodyB (l : List Oper) (t : Tmp) : Bool := l.all fun o => o.dst != some t
/-- Each has a slot of its own; each waits for elder ones alone. -/
def invB (n : Nat) : Nat → List Oper → Bool
  | _, [] => true
  | k, o :: l => (match o.dst with | some d => decide (d < n) && nobodyB l d | none => true) && o.after.all (fun e => !Region.binds .any e || decide (e.on < k)) && invB n (k + 1) l
theorem nobody_iff {l : List Oper} {t : Tmp} (h : nobodyB l t = true) : ∀ j, dstOf l.toArray j ≠ some t := by
  intro j hj
  unfold dstOf at hj
  obtain ⟨o, ho, hd⟩ := Option.bind_eq_some_iff.1 hj
  have hm : o ∈ l := List.mem_of_getElem? (by simpa using ho)
  have := List.all_eq_true.1 h o hm
  simp [hd] at this
theorem invB_spec {n : Nat} : ∀ (l : List Oper) (k : Nat), invB n k l = true → ∀ i o, l[i]? = some o → (∀ d, o.dst = some d → d < n ∧ ∀ j p, l[j]? = some p → i < j → p.dst ≠ some d) ∧ ∀ e ∈ o.after, Region.binds .any e = true → e.on < k + i
  | [], _, _, i, o, h => by simp at h
  | o :: l, k, hB, 0, p, h => by
    have hp : o = p := by simpa using h
    subst hp
    simp only [invB, Bool.and_eq_true] at hB
    obtain ⟨⟨h2, h3⟩, _⟩ := hB
    refine ⟨?_, ?_⟩
    · intro d hd
      rw [hd] at h2
      simp only [Bool.and_eq_true, decide_eq_true_eq] at h2
      refine ⟨h2.1, fun j p hj hlt => ?_⟩
      obtain ⟨j, rfl⟩ : ∃ j', j = j' + 1 := ⟨j - 1, by omega⟩
      have hj' : l[j]? = some p := by simpa using hj
      intro hpd
      exact nobody_iff h2.2 j (by unfold dstOf; simp [hj', hpd])
    · intro e he hb
      have := Array.all_eq_true_iff_forall_mem.1 h3 e he
      simp [hb] at this
      omega
  | o :: l, k, hB, i + 1, p, h => by
    simp only [invB, Bool.and_eq_true] at hB
    obtain ⟨g4, g5⟩ := invB_spec l (k + 1) hB.2 i p (by simpa using h)
    refine ⟨fun d hd => ⟨(g4 d hd).1, fun j q hj hlt => ?_⟩, fun e he hb => by have := g5 e he hb; omega⟩
    obtain ⟨j, rfl⟩ : ∃ j', j = j' + 1 := ⟨j - 1, by omega⟩
    exact (g4 d hd).2 j q (by simpa using hj) (by omega)

/-- What is asked of operation o, number i, where it is carried out, slots as in a0 but for what has come up; C: what holds of the world once these have come up; R: what an operation may do. -/
def OpWP (P : Program) (Q : Exit → Act → World → Prop) (S : Nat → World → Value → Prop) (R : World → World → Prop) (C : Array Bool → World → Prop) (l : List Oper) (a0 : Act) (i : Nat) (o : Oper) : Prop :=
  ∀ (listed : Array Bool) (a : Act) (w : World), C listed w → listed.size = l.length → listed.getD i false = false → (∀ j p, l[j]? = some p → waitsB p i = true → listed.getD j false = false) →
    (∀ t v, nobodyB l t = true → a0.tmps.getD t undef = v → a.tmps.getD t undef = v) →
    (∀ j d, waitsB o j = true → dstOf l.toArray j = some d → ∃ v, a.tmps.getD d undef = v ∧ S j w v) →
    ∀ K : Act → World → Prop, (∀ v w', R w w' → C (listed.setIfInBounds i true) w' → (o.dst.isSome = true → S i w' v) → K (a.put o.dst v) w') → o.wp P a w K Q
/-- The same, whether it is carried out or not. -/
def OpOK (P : Program) (Q : Exit → Act → World → Prop) (S : Nat → World → Value → Prop) (R : World → World → Prop) (C : Array Bool → World → Prop) (l : List Oper) (a0 : Act) (i : Nat) (o : Oper) : Prop :=
  ∀ (listed : Array Bool) (a : Act) (w : World), C listed w → listed.size = l.length → listed.getD i false = false → (∀ j p, l[j]? = some p → waitsB p i = true → listed.getD j false = false) →
    (∀ t v, nobodyB l t = true → a0.tmps.getD t undef = v → a.tmps.getD t undef = v) →
    (∀ j d, waitsB o j = true → dstOf l.toArray j = some d → ∃ v, a.tmps.getD d undef = v ∧ S j w v) →
    ∀ K : Act → World → Prop, (∀ v w', R w w' → C (listed.setIfInBounds i true) w' → (o.dst.isSome = true → S i w' v) → K (a.put o.dst v) w') → if Region.wanted o (yielded l.toArray a.tmps) = true then o.wp P a w K Q else K (a.put o.dst undef) w
section
variable {Q : Exit → Act → World → Prop} {S : Nat → World → Value → Prop} {R : World → World → Prop} {C : Array Bool → World → Prop} {l : List Oper} {a0 : Act} {i : Nat} {o : Oper}
theorem OpOK.plain (hg : o.guard = none) (h : OpWP P Q S R C l a0 i o) : OpOK P Q S R C l a0 i o := fun ls a w h1 hz h2 h3 h4 h5 K hK => by
  rw [if_pos (by simp [Region.wanted, hg])]
  exact h ls a w h1 hz h2 h3 h4 h5 K hK
end
def OpsOK (P : Program) (Q : Exit → Act → World → Prop) (S : Nat → World → Value → Prop) (R : World → World → Prop) (C : Array Bool → World → Prop) (l : List Oper) (a0 : Act) : Nat → List Oper → Prop
  | _, [] => True
  | i, o :: r => OpOK P Q S R C l a0 i o ∧ OpsOK P Q S R C l a0 (i + 1) r
theorem OpsOK.at {Q : Exit → Act → World → Prop} {S : Nat → World → Value → Prop} {R : World → World → Prop} {C : Array Bool → World → Prop} {l : List Oper} {a0 : Act} : ∀ (r : List Oper) (k : Nat), OpsOK P Q S R C l a0 k r → ∀ i o, r[i]? = some o → OpOK P Q S R C l a0 (k + i) o
  | [], _, _, i, o, h => by simp at h
  | p :: r, k, hh, 0, o, h => by
    have : p = o := by simpa using h
    subst this
    exact hh.1
  | p :: r, k, hh, i + 1, o, h => by
    have := OpsOK.at r (k + 1) hh.2 i o (by simpa using h)
    rwa [show k + 1 + i = k + (i + 1) by omega] at this
/-- What is asked behind the region: for whatever values of these kinds. -/
def EndsP (Q : Exit → Act → World → Prop) (S : Nat → World → Value → Prop) (w : World) : Nat → List Oper → Act → Prop
  | _, [], a => Q .normal a w
  | k, o :: r, a => match o.dst with
    | some d => ∀ v, S k w v → EndsP Q S w (k + 1) r (a.put (some d) v)
    | none => EndsP Q S w (k + 1) r a
structure InvS (l : List Oper) (S : Nat → World → Value → Prop) (C : Array Bool → World → Prop) (a0 : Act) (listed : Array Bool) (a : Act) (w : World) : Prop where
  cls : C listed w
  defers : a.defers = a0.defers
  size : a.tmps.size = a0.tmps.size
  same : ∀ t, nobodyB l t = true → a.tmps[t]? = a0.tmps[t]?
  slot : ∀ j d, dstOf l.toArray j = some d → listed.getD j false = true → ∃ v, a.tmps[d]? = some v ∧ S j w v
  closed : ∀ j o, l[j]? = some o → listed.getD j false = true → ∀ e ∈ o.after, Region.binds .any e = true → listed.getD e.on false = true
/-- The frame at the end, slot by slot. -/
theorem ends_of {Q : Exit → Act → World → Prop} {S : Nat → World → Value → Prop} {w : World} : ∀ (r : List Oper) (k : Nat) (a a' : Act) (n : Nat), EndsP Q S w k r a → invB n k r = true → n = a.tmps.size →
    a'.defers = a.defers → a'.tmps.size = a.tmps.size → (∀ t, nobodyB r t = true → a'.tmps[t]? = a.tmps[t]?) → (∀ i d, dstOf r.toArray i = some d → ∃ v, a'.tmps[d]? = some v ∧ S (k + i) w v) → Q .normal a' w
  | [], k, a, a', n, h, _, _, hd, hz, hs, _ => by
    have e : a' = a := by
      obtain ⟨T, D⟩ := a
      obtain ⟨T', D'⟩ := a'
      simp only at hd hz hs
      subst hd
      have : T' = T := Array.ext_getElem? fun t => hs t rfl
      rw [this]
    rw [e]
    exact h
  | o :: r, k, a, a', n, h, hB, hn, hd, hz, hs, hv => by
    simp only [invB, Bool.and_eq_true] at hB
    obtain ⟨⟨h2, _⟩, hB'⟩ := hB
    rw [EndsP] at h
    cases hod : o.dst with
    | none =>
      rw [hod] at h
      refine ends_of r (k + 1) a a' n h hB' hn hd hz (fun t ht => hs t ?_) (fun i e hi => ?_)
      · unfold nobodyB at ht ⊢
        simp only [List.all_cons, Bool.and_eq_true]
        exact ⟨by rw [hod]; rfl, ht⟩
      · obtain ⟨u, hu1, hu2⟩ := hv (i + 1) e (by unfold dstOf at hi ⊢; simpa using hi)
        exact ⟨u, hu1, by rwa [show k + 1 + i = k + (i + 1) by omega]⟩
    | some d =>
      rw [hod] at h2 h
      simp only [Bool.and_eq_true, decide_eq_true_eq] at h2
      obtain ⟨v, hv1, hv2⟩ := hv 0 d (by unfold dstOf; simp [hod])
      have h1 := h v (by simpa using hv2)
      refine ends_of r (k + 1) _ a' n h1 hB' (by rw [hn]; simp [Act.put]) hd (by rw [hz]; simp [Act.put]) (fun t ht => ?_) (fun i e hi => ?_)
      · by_cases htd : t = d
        · subst htd
          rw [hv1]
          simp only [Act.put]
          rw [Array.getElem?_setIfInBounds_self_of_lt (by have h9 := h2.1; rw [hn] at h9; exact h9)]
        · have : nobodyB (o :: r) t = true := by
            unfold nobodyB at ht ⊢
            simp only [List.all_cons, Bool.and_eq_true]
            exact ⟨by rw [hod]; simpa using fun e => htd e.symm, ht⟩
          rw [hs t this]
          simp only [Act.put]
          rw [Array.getElem?_setIfInBounds_ne (fun e => htd e.symm)]
      · obtain ⟨u, hu1, hu2⟩ := hv (i + 1) e (by unfold dstOf at hi ⊢; simpa using hi)
        exact ⟨u, hu1, by rwa [show k + 1 + i = k + (i + 1) by omega]⟩
end
/-- **One goal for each operation**: of what values it makes, for whatever values of their kinds the others have made; and one for what stands behind. -/
theorem wp_region_inv {P : Program} {Q : Exit → Act → World → Prop} {id : Nat} {l : List Oper} {a0 : Act} {w0 : World} (S : Nat → World → Value → Prop) (R : World → World → Prop) (C : Array Bool → World → Prop) (hm : P.follows .mixedOrders = true) (hB : invB a0.tmps.size 0 l = true)
    (hC : C (Array.replicate l.toArray.size false) w0.drew) (hst : ∀ j w w' v, R w w' → S j w v → S j w' v) (hops : OpsOK P Q S R C l a0 0 l)
    (hend : ∀ listed w, (∀ i, i < l.length → listed.getD i false = true) → C listed w → EndsP Q S w 0 l a0) : (Code.region id l.toArray true).wp P Q a0 w0 := by
  have hsp := invB_spec l 0 hB
  refine wp_region_any hm (wpAny_inv (InvS l S C a0) ?_ ?_ _ _ _ _ (by simp) (by simp) ?_)
  · intro listed a w i hs hi hI
    obtain ⟨h0, o, ho, hall⟩ := mem_ready.1 hi
    have ho' : l[i]? = some o := by simpa using ho
    have hil : i < listed.size := by rw [hs]; exact (Array.getElem?_eq_some_iff.1 ho).1
    have h0f : listed.getD i false = false := by simpa [hil] using h0
    obtain ⟨hdd, hback⟩ := hsp i o ho'
    have hok := OpsOK.at l 0 hops i o ho'
    rw [Nat.zero_add] at hok
    refine wpOp_step ho fun K' hK' => hok listed a w hI.cls (by rw [hs]; simp) h0f (fun j p hj hw => ?_) (fun t v ht h => ?_) (fun j e hw he => ?_) _ fun v w' hR hc hv => hK' _ _ ?_
    · cases hlj : listed.getD j false with
      | false => rfl
      | true =>
        unfold waitsB at hw
        obtain ⟨ed, hed, hb⟩ := Array.any_eq_true'.1 hw
        simp only [Bool.and_eq_true, beq_iff_eq] at hb
        have := hI.closed j p hj hlj ed hed hb.1
        rw [hb.2, h0f] at this
        cases this
    · rw [← h, Array.getD_eq_getD_getElem?, Array.getD_eq_getD_getElem?, hI.same t ht]
    · unfold waitsB at hw
      obtain ⟨ed, hed, hb⟩ := Array.any_eq_true'.1 hw
      simp only [Bool.and_eq_true, beq_iff_eq] at hb
      obtain ⟨u, hu1, hu2⟩ := hI.slot j e he (by rw [← hb.2]; exact hall ed hed hb.1)
      exact ⟨u, by rw [Array.getD_eq_getD_getElem?, hu1]; rfl, hu2⟩
    · have hnot : ∀ t, nobodyB l t = true → o.dst ≠ some t := fun t ht hd => nobody_iff ht i (by unfold dstOf; simp [ho', hd])
      have hput : ∀ t, o.dst ≠ some t → (a.put o.dst v).tmps[t]? = a.tmps[t]? := fun t ht => by
        cases hd : o.dst with
        | none => rfl
        | some d =>
          simp only [Act.put]
          rw [Array.getElem?_setIfInBounds_ne (fun e => ht (by rw [hd, e]))]
      have hsz : (a.put o.dst v).tmps.size = a.tmps.size := by cases o.dst <;> simp [Act.put]
      refine ⟨hc, by rw [← hI.defers]; cases o.dst <;> rfl, by rw [hsz]; exact hI.size, fun t ht => (hput t (hnot t ht)).trans (hI.same t ht), fun j e he hl => ?_, fun j p hj hl ed hed hb => ?_⟩
      · by_cases hji : j = i
        · subst hji
          have hed : o.dst = some e := by unfold dstOf at he; simp [ho'] at he; exact he
          refine ⟨v, ?_, hv (by rw [hed]; rfl)⟩
          rw [hed]
          simp only [Act.put]
          rw [Array.getElem?_setIfInBounds_self_of_lt (by rw [hI.size]; exact (hdd e hed).1)]
        · rw [getD_set_ne false (Ne.symm hji)] at hl
          obtain ⟨u, hu1, hu2⟩ := hI.slot j e he hl
          refine ⟨u, ?_, hst j w w' u hR hu2⟩
          refine (hput e (fun hd => ?_)).trans hu1
          unfold dstOf at he
          obtain ⟨p, hp, hpd⟩ := Option.bind_eq_some_iff.1 he
          have hp' : l[j]? = some p := by simpa using hp
          rcases Nat.lt_or_ge i j with hlt | hge
          · exact (hdd e hd).2 j p hp' hlt hpd
          · exact ((hsp j p hp').1 e hpd).2 i o ho' (by omega) hd
      · by_cases hji : j = i
        · subst hji
          rw [ho'] at hj
          injection hj with hj
          subst hj
          exact getD_set_true (hall ed hed hb)
        · rw [getD_set_ne false (Ne.symm hji)] at hl
          exact getD_set_true (hI.closed j p hj hl ed hed hb)
  · intro listed a w hs hr hI
    have hallL : ∀ i, i < l.length → listed.getD i false = true := by
      intro i
      induction i using Nat.strongRecOn with
      | _ i ih =>
        intro hi
        by_cases hli : listed.getD i false = true
        · exact hli
        · exfalso
          obtain ⟨o, ho⟩ : ∃ o, l[i]? = some o := ⟨_, List.getElem?_eq_getElem hi⟩
          obtain ⟨_, hback⟩ := hsp i o ho
          have hmem : i ∈ Region.ready .any l.toArray listed := mem_ready.2 ⟨by
            have hlt : i < listed.size := by rw [hs]; simpa using hi
            simp [hlt] at hli ⊢
            exact hli, o, by simpa using ho, fun e he hb => ih e.on (by have := hback e he hb; omega) (by have := hback e he hb; omega)⟩
          rw [hr] at hmem
          cases hmem
    refine ends_of l 0 a0 a _ (hend listed w hallL hI.cls) hB rfl hI.defers hI.size hI.same (fun i d hd => ?_)
    have hi : i < l.length := by
      unfold dstOf at hd
      obtain ⟨p, hp, _⟩ := Option.bind_eq_some_iff.1 hd
      have := (Array.getElem?_eq_some_iff.1 hp).1
      simpa using this
    rw [Nat.zero_add]
    exact hI.slot i d hd (hallL i hi)
  · have hno : ∀ j, (Array.replicate l.toArray.size false).getD j false = false := fun j => by
      rcases Nat.lt_or_ge j l.length with hj | hj
      · simp [hj]
      · simp [Nat.not_lt.2 hj]
    exact ⟨hC, rfl, rfl, fun _ _ => rfl, (fun j d _ h => by rw [hno] at h; cases h), (fun j o _ h => by rw [hno] at h; cases h)⟩
end Go.Proofs.YtpdoeapjdifmbaaGreatDoor

namespace Go.Proofs.YtpdoeapjdifmbaaGreatDoor
open Go.RowKit Ver Evr Span Dep Rich

def DesN (base : Nat) (w : World) (v : Value) (l : List De) : Prop := (∀ W, Kept (fun b => b < base) w W → DesS W v l) ∧ (l = [] ∨ ∃ b0, base ≤ b0 ∧ w.ownsRow b0 60 5 v l.length (cellsDe l))
def StrN (base : Nat) (w : World) (v : Value) (l : List ByteArray) : Prop := ∀ W, Kept (fun b => b < base) w W → StrS W v l
theorem DesN.here {base : Nat} {w : World} {v : Value} {l : List De} (h : DesN base w v l) : DesS w v l := h.1 w (Kept.refl _ _)
theorem StrN.here {base : Nat} {w : World} {v : Value} {l : List ByteArray} (h : StrN base w v l) : StrS w v l := h w (Kept.refl _ _)
theorem DesN.kept {base : Nat} {w w' : World} {v : Value} {l : List De} (h : DesN base w v l) (hk : Kept (fun b => b < base) w w') : DesN base w' v l := ⟨fun W hW => h.1 W (hk.trans hW (fun _ _ h => h)), h.2.imp_right fun ⟨b0, hb, ho⟩ => ⟨b0, hb, hk.owns ho (fun i hi hs => by have := (ho.lt i hi).1; omega)⟩⟩
theorem StrN.kept {base : Nat} {w w' : World} {v : Value} {l : List ByteArray} (h : StrN base w v l) (hk : Kept (fun b => b < base) w w') : StrN base w' v l := fun W hW => h W (hk.trans hW (fun _ _ h => h))
theorem DesN.less {a b : Nat} {w : World} {v : Value} {l : List De} (h : DesN a w v l) (hb : b ≤ a) : DesN b w v l := ⟨fun W hW => h.1 W (hW.weaker (fun _ _ hi => Nat.lt_of_lt_of_le hi hb)), h.2.imp_right fun ⟨b0, h0, ho⟩ => ⟨b0, Nat.le_trans hb h0, ho⟩⟩
theorem StrN.less {a b : Nat} {w : World} {v : Value} {l : List ByteArray} (h : StrN a w v l) (hb : b ≤ a) : StrN b w v l := fun W hW => h W (hW.weaker (fun _ _ hi => Nat.lt_of_lt_of_le hi hb))
/-- What lies in a package's slices, whatever becomes of the blocks below base. -/
structure PkN (base : Nat) (w : World) (p : Pk) (s : Sl) : Prop where
  pv : DesN base w s.s4 p.pv
  rq : RisN base w s.s5 p.rq
  cf : RisN base w s.s6 p.cf
  ob : DesN base w s.s7 p.ob
  rc : RisN base w s.s8 p.rc
  sp : RisN base w s.s9 p.sp
  sg : RisN base w s.s10 p.sg
  en : RisN base w s.s11 p.en
  fi : StrN base w s.s12 p.fi
  k4 : NilOk s.s4
  k5 : NilOk s.s5
  k6 : NilOk s.s6
  k7 : NilOk s.s7
  k8 : NilOk s.s8
  k9 : NilOk s.s9
  k10 : NilOk s.s10
  k11 : NilOk s.s11
  k12 : NilOk s.s12
  q4 : CapOk s.s4
  q5 : CapOk s.s5
  q6 : CapOk s.s6
  q7 : CapOk s.s7
  q8 : CapOk s.s8
  q9 : CapOk s.s9
  q10 : CapOk s.s10
  q11 : CapOk s.s11
  q12 : CapOk s.s12
theorem PkN.here {base : Nat} {w : World} {p : Pk} {s : Sl} (h : PkN base w p s) : PkIn w p s := ⟨h.pv.here, h.rq.here, h.cf.here, h.ob.here, h.rc.here, h.sp.here, h.sg.here, h.en.here, h.fi.here, h.k4, h.k5, h.k6, h.k7, h.k8, h.k9, h.k10, h.k11, h.k12⟩
theorem PkN.kept {base : Nat} {w w' : World} {p : Pk} {s : Sl} (h : PkN base w p s) (hk : Kept (fun b => b < base) w w') : PkN base w' p s := ⟨h.pv.kept hk, h.rq.kept hk, h.cf.kept hk, h.ob.kept hk, h.rc.kept hk, h.sp.kept hk, h.sg.kept hk, h.en.kept hk, h.fi.kept hk, h.k4, h.k5, h.k6, h.k7, h.k8, h.k9, h.k10, h.k11, h.k12, h.q4, h.q5, h.q6, h.q7, h.q8, h.q9, h.q10, h.q11, h.q12⟩
theorem PkN.less {a b : Nat} {w : World} {p : Pk} {s : Sl} (h : PkN a w p s) (hb : b ≤ a) : PkN b w p s := ⟨h.pv.less hb, h.rq.less hb, h.cf.less hb, h.ob.less hb, h.rc.less hb, h.sp.less hb, h.sg.less hb, h.en.less hb, h.fi.less hb, h.k4, h.k5, h.k6, h.k7, h.k8, h.k9, h.k10, h.k11, h.k12, h.q4, h.q5, h.q6, h.q7, h.q8, h.q9, h.q10, h.q11, h.q12⟩
theorem desN_of {w w' : World} {g : Nat} {v : Value} {l : List De} (h : l.length = 0 ∧ v = .slice (some ⟨g, 0, none⟩) 0 0 ∨ w'.ownsRow w.heap.size 60 5 v l.length (cellsDe l)) {base : Nat} (hb : base ≤ w.heap.size) : DesN base w' v l ∧ NilOk v ∧ CapOk v := by
  rcases h with ⟨h0, rfl⟩ | h
  · have hl : l = [] := List.eq_nil_of_length_eq_zero h0
    subst hl
    exact ⟨⟨fun W _ => ⟨_, _, rfl, fun i e hi => by simp at hi⟩, .inl rfl⟩, NilOk.some _ _ _, fun _ _ _ h => by injection h with _ h1 h2; omega⟩
  · refine ⟨⟨fun W hW => own_des (hW.owns h (fun i hi hs => by have := (h.lt i hi).1; omega)), .inr ⟨w.heap.size, hb, h⟩⟩, fun n c hv => ?_, capOk_own h⟩
    rcases h.2 with ⟨h1, h2⟩ | ⟨g, cap, cur, e1, _⟩
    · rw [h1] at hv
      injection hv with _ h3 h4
      exact ⟨h3.symm, h4.symm⟩
    · rw [e1] at hv
      injection hv with hv _ _
      cases hv
theorem strN_of {w w' : World} {g : Nat} {e : TypeId} {v : Value} {l : List ByteArray} (h : l.length = 0 ∧ v = .slice (some ⟨g, 0, none⟩) 0 0 ∨ w'.ownsRow w.heap.size e 1 v l.length (cellsS l)) {base : Nat} (hb : base ≤ w.heap.size) : StrN base w' v l ∧ NilOk v ∧ CapOk v := by
  rcases h with ⟨h0, rfl⟩ | h
  · have hl : l = [] := List.eq_nil_of_length_eq_zero h0
    subst hl
    exact ⟨fun W _ => ⟨_, _, rfl, fun i e hi => by simp at hi⟩, NilOk.some _ _ _, fun _ _ _ h => by injection h with _ h1 h2; omega⟩
  · refine ⟨fun W hW => own_strs (hW.owns h (fun i hi hs => by have := (h.lt i hi).1; omega)), fun n c hv => ?_, capOk_own h⟩
    rcases h.2 with ⟨h1, h2⟩ | ⟨g, cap, cur, e1, _⟩
    · rw [h1] at hv
      injection hv with _ h3 h4
      exact ⟨h3.symm, h4.symm⟩
    · rw [e1] at hv
      injection hv with hv _ _
      cases hv
theorem wid10 {S : Nat → Prop} {w w' : World} (h : Kept (fun _ => False) w w') : Kept S w w' := h.weaker (fun _ _ h => absurd h (fun h => h))
/-- What a slot of the copy's region holds. -/
inductive KdC where
  | lit (v : Value)
  | ris (l : List R)
  | des (l : List De)
  | strs (l : List ByteArray)
  | emp
  | pk (p : Pk)
def KdC.S (base : Nat) : KdC → World → Value → Prop
  | .lit u, _, v => v = u
  | .ris l, w, v => RisN base w v l ∧ NilOk v ∧ CapOk v
  | .des l, w, v => DesN base w v l ∧ NilOk v ∧ CapOk v
  | .strs l, w, v => StrN base w v l ∧ NilOk v ∧ CapOk v
  | .emp, _, v => ∃ g, v = .slice (some ⟨g, 0, none⟩) 0 0
  | .pk p, w, v => ∃ s : Sl, v = .agg (pkA p s) ∧ PkN base w p s
theorem KdC.S.kept {base : Nat} : ∀ (k : KdC) {w w' : World} {v : Value}, Kept (fun b => b < base) w w' → k.S base w v → k.S base w' v
  | .lit _, _, _, _, _, h => h
  | .ris _, _, _, _, hk, h => ⟨h.1.kept hk, h.2⟩
  | .des _, _, _, _, hk, h => ⟨h.1.kept hk, h.2⟩
  | .strs _, _, _, _, hk, h => ⟨h.1.kept hk, h.2⟩
  | .emp, _, _, _, _, h => h
  | .pk _, _, _, _, hk, ⟨s, h1, h2⟩ => ⟨s, h1, h2.kept hk⟩
def SC (base : Nat) (tbl : List KdC) (j : Nat) (w : World) (v : Value) : Prop := match tbl[j]? with
  | some k => k.S base w v
  | none => True
theorem SC.mk {base : Nat} {tbl : List KdC} {j : Nat} {w : World} {v : Value} {k : KdC} (h : tbl[j]? = some k) (hs : k.S base w v) : SC base tbl j w v := by unfold SC; rw [h]; exact hs
theorem SC.get {base : Nat} {tbl : List KdC} {j : Nat} {w : World} {v : Value} {k : KdC} (h : tbl[j]? = some k) (hs : SC base tbl j w v) : k.S base w v := by unfold SC at hs; rw [h] at hs; exact hs
/-- What holds of the world as the copy's region goes on: the result's box is empty till the last operation, and then holds the copy. -/
def CC (W0 : World) (gz : Nat) (p : Pk) (listed : Array Bool) (w : World) : Prop := Kept (fun b => b = gz) W0 w ∧ (if listed.getD 39 false = true then ∃ s : Sl, Box w gz 48 (pkA p s) ∧ PkN (gz + 1) w p s else Box w gz 48 #[.string ⟨#[]⟩, .int .i64 0, .string ⟨#[]⟩, .string ⟨#[]⟩, .int .u8 0, .string ⟨#[]⟩, .slice none 0 0, .slice none 0 0, .slice none 0 0, .slice none 0 0, .slice none 0 0, .slice none 0 0, .slice none 0 0, .slice none 0 0, .slice none 0 0])
theorem CC.same {W0 : World} {gz : Nat} {p : Pk} {listed : Array Bool} {w w' : World} (h : CC W0 gz p listed w) {i : Nat} (hi : i ≠ 39) (hk : Kept (fun _ => False) w w') : CC W0 gz p (listed.setIfInBounds i true) w' := by
  have e : (listed.setIfInBounds i true).getD 39 false = listed.getD 39 false := by
    rw [Array.getD_eq_getD_getElem?, Array.getD_eq_getD_getElem?, Array.getElem?_setIfInBounds_ne hi]
  refine ⟨h.1.trans hk (fun _ _ h => h.elim), ?_⟩
  rw [e]
  have h2 := h.2
  split
  · rename_i hc
    rw [if_pos hc] at h2
    obtain ⟨s, h3, h4⟩ := h2
    exact ⟨s, hk.box h3 (fun h => h), h4.kept (hk.weaker (fun _ _ h => h.elim))⟩
  · rename_i hc
    rw [if_neg hc] at h2
    exact hk.box h2 (fun h => h)
theorem CC.last {W0 : World} {gz : Nat} {p : Pk} {listed : Array Bool} {w w' : World} {s : Sl} (h : CC W0 gz p listed w) (hl : 39 < listed.size) (hk : Kept (fun b => b = gz) w w') (hb : Box w' gz 48 (pkA p s)) (hn : PkN (gz + 1) w p s) : CC W0 gz p (listed.setIfInBounds 39 true) w' := by
  have e : (listed.setIfInBounds 39 true).getD 39 false = true := by
    rw [Array.getD_eq_getD_getElem?, Array.getElem?_setIfInBounds_self_of_lt hl]
    rfl
  refine ⟨h.1.trans hk (fun _ _ h => h), ?_⟩
  rw [if_pos e]
  exact ⟨s, hb, hn.kept (hk.weaker (fun i _ h => by show i < gz + 1; omega))⟩
theorem pk_result10 {fn : Func} {p : Tmp} (h : fn.results = #[.cell p 48]) (tmps : Array Value) (W : World) (g : Nat) (cs : Array Value) (hp : tmps.getD p undef = .pointer (some ⟨g, 0, none⟩)) (hB : Box W g 48 cs) (hs : cs.size = 15) :
    (results fn tmps).run Tryz.prog W = .ok (.agg cs) W :=
  results_cell_row h tmps W g 48 cs (0, 0) _ hp hB Tryz.underlying48 rfl (by rw [hs]; kernel_rfl)
end Go.Proofs.YtpdoeapjdifmbaaGreatDoor

namespace Go.Proofs.YtpdoeapjdifmbaaGreatDoor
open Go.RowKit Ver Evr Span Dep Rich
open Go.Maps Go.ChangeMaps Go.MapKept Go.ChangeShapes
open Go.WideElems (Fit rd rg pl rd_val elemAt)

/-- Where a name stands among names. -/
def pos (nm : ByteArray) (L : List ByteArray) : List Nat := (List.range L.length).filter fun i => decide (L[i]? = some nm)
theorem pos_mem {nm : ByteArray} {L : List ByteArray} {i : Nat} : i ∈ pos nm L ↔ L[i]? = some nm := by
  unfold pos
  rw [List.mem_filter, List.mem_range, decide_eq_true_iff]
  exact ⟨fun h => h.2, fun h => ⟨(List.getElem?_eq_some_iff.1 h).1, h⟩⟩
theorem pos_snoc (nm x : ByteArray) (L : List ByteArray) : pos nm (L ++ [x]) = pos nm L ++ if x = nm then [L.length] else [] := by
  unfold pos
  rw [List.length_append, List.length_singleton, List.range_succ, List.filter_append]
  congr 1
  · refine List.filter_congr fun i hi => ?_
    rw [List.mem_range] at hi
    rw [List.getElem?_append_left hi]
  · by_cases h : x = nm
    · simp [h]
    · simp [h]
theorem pos_le (nm : ByteArray) (L : List ByteArray) : (pos nm L).length ≤ L.length := by
  unfold pos
  exact Nat.le_trans (List.length_filter_le _ _) (by simp)
def posI (nm : ByteArray) (L : List ByteArray) : List Int := (pos nm L).map fun i : Nat => (i : Int)
theorem posI_len (nm : ByteArray) (L : List ByteArray) : (posI nm L).length ≤ L.length := by
  unfold posI
  rw [List.length_map]
  exact pos_le nm L
def posD (nm : ByteArray) (L : List ByteArray) : DataW Unit := if pos nm L = [] then .nil else .slice (lits .i64 (posI nm L)) []
theorem lits_inj {k : IntKind} {a b : List Int} (h : lits (H := Unit) k a = lits k b) : a = b := (List.map_inj_right (fun x y hxy => by injection hxy with h1; injection h1)).1 h
/-- The map has each name's numbers. -/
def GrOk (D : DataW Unit) (L : List ByteArray) : Prop := IsMap D ∧ (∀ nm : ByteArray, D.atKey (.string nm.data.toList) .nil = posD nm L) ∧ ∀ kl, Maps.has D kl = true → ∃ nm ∈ L, kl = .string nm.data.toList
theorem GrOk.empty : GrOk (.map []) [] := ⟨isMap_empty, fun _ => rfl, fun kl h => by cases h⟩
theorem GrOk.find {D : DataW Unit} {L : List ByteArray} {w : World} {base : Nat} {e : TypeId} {v : Value} {zs : List Int} {nm : ByteArray} (h : GrOk D L) (hat : D.atKey (.string nm.data.toList) .nil = rowDatum .i64 v zs) (ho : w.ownsInts base e .i64 v zs) : zs = posI nm L := by
  rw [h.2.1 nm] at hat
  unfold posD at hat
  by_cases hp : pos nm L = []
  · rw [if_pos hp] at hat
    unfold posI
    rw [hp]
    rcases ho.datum (H := Unit) with ⟨_, h0⟩ | h1
    · exact h0
    · rw [h1] at hat
      cases hat
  · rw [if_neg hp] at hat
    rcases ho.datum (H := Unit) with ⟨h1, _⟩ | h1
    · rw [h1] at hat
      cases hat
    · rw [h1] at hat
      injection hat with hat
      exact (lits_inj hat).symm
theorem GrOk.put {D : DataW Unit} {L : List ByteArray} {w : World} {base : Nat} {e : TypeId} {v : Value} {nm : ByteArray} (h : GrOk D L) (ho : w.ownsInts base e .i64 v (posI nm L ++ [(L.length : Int)])) : GrOk (D.put (.string nm.data.toList) (rowDatum .i64 v (posI nm L ++ [(L.length : Int)]))) (L ++ [nm]) := by
  refine ⟨h.1.put _ _, fun x => ?_, fun kl hk => ?_⟩
  case refine_2 =>
    by_cases hkl : kl = .string nm.data.toList
    · exact ⟨nm, List.mem_append_right _ (List.mem_singleton.2 rfl), hkl⟩
    · rw [has_put_other hkl] at hk
      obtain ⟨y, hy, e⟩ := h.2.2 kl hk
      exact ⟨y, List.mem_append_left _ hy, e⟩
  by_cases hx : x = nm
  · subst hx
    rw [atKey_put_same h.1 (show WideAt.IsKeyLit (.string x.data.toList) from trivial), ho.datum_pos (by simp)]
    have hp := pos_snoc x x L
    rw [if_pos rfl] at hp
    unfold posD posI
    rw [hp, if_neg (by simp)]
    simp
  · rw [atKey_put_other (fun e => hx (by injection e with e; exact ByteArray.ext (Array.toList_inj.1 e)))]
    rw [h.2.1 x]
    have hp := pos_snoc x nm L
    rw [if_neg (fun e => hx e.symm), List.append_nil] at hp
    unfold posD posI
    rw [hp]

/-- The package reads so whatever becomes of other blocks than those of B. -/
def PkQ (B : Nat → Prop) (w : World) (p : Pk) (s : Sl) : Prop := ∀ W, Kept (fun b => ¬ B b) w W → PkIn W p s
theorem PkQ.here {B : Nat → Prop} {w : World} {p : Pk} {s : Sl} (h : PkQ B w p s) : PkIn w p s := h w (Kept.refl _ _)
theorem PkQ.kept {B S : Nat → Prop} {w w' : World} {p : Pk} {s : Sl} (h : PkQ B w p s) (hk : Kept S w w') (hS : ∀ b, b < w.heap.size → S b → ¬ B b) : PkQ B w' p s := fun W hW => h W ((hk.weaker hS).trans hW (fun _ _ h => h))
theorem PkQ.mono {B B' : Nat → Prop} {w : World} {p : Pk} {s : Sl} (h : PkQ B w p s) (hB : ∀ b, B b → B' b) : PkQ B' w p s := fun W hW => h W (hW.weaker (fun i _ hi hb => hi (hB i hb)))
theorem PkQ.of_pkN {n0 : Nat} {w : World} {p : Pk} {s : Sl} (h : PkN n0 w p s) : PkQ (fun b => n0 ≤ b ∧ b < w.heap.size) w p s := fun W hW => (h.kept (hW.weaker (fun i hi hb => by
  have hb' : ¬ (n0 ≤ i ∧ i < w.heap.size) := hb
  show i < n0
  omega))).here

/-- A row of a pool. -/
structure PRow where
  p : Pk
  s : Sl
  rp : Int
  pr : Int
abbrev prowA (r : PRow) : Array Value := #[.string r.p.nm, .int .i64 r.p.n, .string r.p.v, .string r.p.r, .int .u8 (r.p.a : Int), .string r.p.vd, r.s.s4, r.s.s5, r.s.s6, r.s.s7, r.s.s8, r.s.s9, r.s.s10, r.s.s11, r.s.s12, .int .i64 r.rp, .int .i64 r.pr]
def rowsC : List PRow → List Value
  | [] => []
  | r :: l => (prowA r).toList ++ rowsC l
theorem rowsC_app : ∀ l m : List PRow, rowsC (l ++ m) = rowsC l ++ rowsC m
  | [], m => rfl
  | r :: l, m => by rw [List.cons_append, rowsC, rowsC, rowsC_app l m, List.append_assoc]
theorem rowsC_one (r : PRow) : rowsC [r] = (prowA r).toList := by simp [rowsC]
theorem rowsC_at : ∀ (l : List PRow) (i : Nat) (r : PRow), l[i]? = some r → ∀ (j : Nat) (u : Value), (prowA r)[j]? = some u → (rowsC l)[i * 17 + j]? = some u
  | [], i, r, h, j, u, hj => by simp at h
  | x :: l, 0, r, h, j, u, hj => by
    have h' : x = r := by simpa using h
    subst h'
    have hlt := (Array.getElem?_eq_some_iff.1 hj).1
    rw [rowsC, Nat.zero_mul, Nat.zero_add, List.getElem?_append_left (by simpa using hlt)]
    simpa using hj
  | x :: l, i + 1, r, h, j, u, hj => by
    rw [rowsC, List.getElem?_append_right (by simp; omega)]
    have hz : (prowA x).toList.length = 17 := by simp
    rw [hz, show (i + 1) * 17 + j - 17 = i * 17 + j by omega]
    exact rowsC_at l i r (by simpa using h) j u hj

theorem grown_kept {w w' : World} (hk : Kept (fun _ => False) w w') : w.grownBy w' none := ⟨hk.os, hk.tape, hk.output, hk.size, fun k hk' _ => hk.block k hk' (fun h => h)⟩
theorem kept_grown {S : Nat → Prop} {w w' : World} {row : Option Nat} (h : w.grownBy w' row) (hr : ∀ i, row = some i → S i ∨ w.heap.size ≤ i) : Kept S w w' := (Kept.refl S w).grown h hr
/-- Over whatever turns neither the map's block nor a group's. -/
theorem groups_kept {P : Program} {k e : TypeId} {q : IntKind} {w w' : World} {base b n : Nat} {D : DataW Unit} {S : Nat → Prop} (h : w.ownsGroups P k base e q b n D) (hk : Kept S w w') (hb : ¬ S b) (hS : ∀ i, base ≤ i → ¬ S i) : w'.ownsGroups P k base e q b n D := by
  obtain ⟨es, clock, hb', F, hs, rfl, hbb, hlen, hap⟩ := h
  have hblt : b < w.heap.size := (Array.getElem?_eq_some_iff.1 hb').1
  have own : ∀ {v : Value} {zs : List Int}, w.ownsInts base e q v zs → w'.ownsInts base e q v zs := fun ho => ⟨hk.owns ho.1 (fun i hi => hS i (ho.1.lt i hi).1), ho.2⟩
  have hst : ∀ x ∈ es.toList, ∀ z, rowElem (H := Unit) w base e q x.val = some z → rowElem w' base e q x.val = some z := fun x hx z hz => by
    obtain ⟨zs, ho, rfl⟩ := rowElem_inv hz
    exact rowElem_mk (own ho)
  obtain ⟨F1, hmap, _⟩ := F.stay hst
  refine ⟨es, clock, (hk.block b hblt hb).trans hb', F1, hs, by rw [hmap], hbb, fun x hx zs ho => ?_, hap⟩
  obtain ⟨y, hy⟩ := F.reads x hx
  obtain ⟨z, hz, _⟩ := rd_val hy
  obtain ⟨zs0, ho0, _⟩ := rowElem_inv hz
  rw [ho.unique (own ho0)]
  exact hlen x hx zs0 ho0
theorem groups_lt {P : Program} {k e : TypeId} {q : IntKind} {w : World} {base b n : Nat} {D : DataW Unit} (h : w.ownsGroups P k base e q b n D) : b < w.heap.size ∧ b < base := by
  obtain ⟨es, clock, hb', F, hs, rfl, hbb, hlen, hap⟩ := h
  exact ⟨(Array.getElem?_eq_some_iff.1 hb').1, hbb⟩
theorem shuns_kept {w w' : World} {b : Nat} {S No : Nat → Prop} (h : w.Shuns b No) (hk : Kept S w w') (hlt : b < w.heap.size) (hb : ¬ S b) : w'.Shuns b No := fun es clock hb' => h es clock ((hk.block b hlt hb).symm.trans hb')
/-- A pool in memory: its box, its rows (l), its map of the names L, the packages' blocks (B), all from block lo on. -/
structure PG (lo : Nat) (B : Nat → Prop) (inst : Int) (w : World) (pb : Nat) (v : Value) (mb : Nat) (D : DataW Unit) (l : List PRow) (L : List ByteArray) : Prop where
  box : Box w pb 80 #[v, .int .i64 inst, .map (some mb)]
  row : w.ownsRow lo 88 17 v l.length (rowsC l)
  grp : w.ownsGroups Tryz.prog 9 (mb + 1) 3 .i64 mb L.length D
  gro : GrOk D L
  shu : w.Shuns mb (fun g => B g ∨ v.ownBlock = some g)
  lop : lo ≤ pb
  lom : lo ≤ mb
  bp : ¬ B pb
  bm : ¬ B mb
  br : ∀ g, v.ownBlock = some g → ¬ B g
  bl : ∀ g, B g → lo ≤ g ∧ g < w.heap.size
  pks : ∀ r ∈ l, PkQ B w r.p r.s
section
variable {lo : Nat} {B S : Nat → Prop} {inst : Int} {w w' : World} {pb : Nat} {v : Value} {mb : Nat} {D : DataW Unit} {l : List PRow} {L : List ByteArray}
/-- What happens elsewhere leaves it. -/
theorem PG.kept (h : PG lo B inst w pb v mb D l L) (hk : Kept S w w') (hS : ∀ b, lo ≤ b → ¬ S b) : PG lo B inst w' pb v mb D l L :=
  ⟨hk.box h.box (hS _ h.lop), hk.owns h.row (fun i hi => hS i (h.row.lt i hi).1), groups_kept h.grp hk (hS _ h.lom) (fun i hi => hS i (by have := h.lom; omega)), h.gro, shuns_kept h.shu hk (groups_lt h.grp).1 (hS _ h.lom), h.lop, h.lom, h.bp, h.bm, h.br,
    fun g hg => ⟨(h.bl g hg).1, Nat.lt_of_lt_of_le (h.bl g hg).2 hk.size⟩, fun r hr => (h.pks r hr).kept hk (fun b _ hs hb => hS b (h.bl b hb).1 hs)⟩
theorem PG.quiet (h : PG lo B inst w pb v mb D l L) (hk : Kept (fun _ => False) w w') : PG lo B inst w' pb v mb D l L := h.kept hk (fun _ _ h => h)
/-- More blocks are the packages', all of them new. -/
theorem PG.more (h : PG lo B inst w pb v mb D l L) (hk : Kept (fun _ => False) w w') {B' : Nat → Prop} (hB : ∀ g, B g → B' g) (hN : ∀ g, B' g → B g ∨ (w.heap.size ≤ g ∧ g < w'.heap.size)) (hlo : lo ≤ w.heap.size) : PG lo B' inst w' pb v mb D l L := by
  have h' := h.quiet hk
  have old : ∀ g, g < w.heap.size → ¬ B g → ¬ B' g := fun g hg hn hb => by
    rcases hN g hb with hb | hb
    · exact hn hb
    · omega
  refine ⟨h'.box, h'.row, h'.grp, h'.gro, ?_, h.lop, h.lom, old _ h.box.lt h.bp, old _ (groups_lt h.grp).1 h.bm, fun g hg => old g (h.row.lt g hg).2 (h.br g hg), fun g hg => ?_, fun r hr => (h'.pks r hr).mono hB⟩
  · refine shuns_kept (h.shu.reno h.grp (No' := fun g => B' g ∨ v.ownBlock = some g) (fun g hg => ?_)) hk (groups_lt h.grp).1 (fun h => h)
    rcases hg with hg | hg
    · rcases hN g hg with hb | hb
      · exact .inl (.inl hb)
      · exact .inr hb.1
    · exact .inl (.inr hg)
  · rcases hN g hg with hb | hb
    · exact h'.bl g hb
    · exact ⟨by omega, hb.2⟩
end
end Go.Proofs.YtpdoeapjdifmbaaGreatDoor
