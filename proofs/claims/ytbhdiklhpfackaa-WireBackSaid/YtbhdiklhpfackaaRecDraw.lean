/-
  A deferred function that recovers inside a statement whose order Go leaves open: what holds behind every order holds. Nothing of the program is named here. Conditions: as each theorem states.
-/
import Derived.Recover
import Derived.Orders
import Derived.WalkKit
namespace Go.Proofs.Ytbhdiklhpfackaa

/-- One operation of a deferred function. -/
def stepS (P : Program) (ops : Array Oper) (Q : Exit → Act → List Frame → World → Prop) (i : Nat) (K : Act → List Frame → World → Prop) (a : Act) (cs : List Frame) (w : World) : Prop :=
  match ops[i]? with
  | none => K a cs w
  | some o =>
    if Region.wanted o (yielded ops a.tmps) then
      match (execOp a.eval o).run P w with
      | .ok .recover w' =>
        match recoverD cs with
        | some (v, cs') => K (a.put o.dst v) cs' w'
        | none => K (a.put o.dst .nilIface) cs w'
      | r => o.upon P a (fun a' w' => K a' cs w') (fun e a' w' => Q e a' cs w') r
    else K (a.put o.dst undef) cs w

section
variable {P : Program} {ops : Array Oper} {Q : Exit → Act → List Frame → World → Prop}

theorem wpOpsS_step (i : Nat) (rest : List Nat) (a : Act) (cs : List Frame) (w : World) : wpOpsS P ops Q (i :: rest) a cs w = stepS P ops Q i (wpOpsS P ops Q rest) a cs w := by
  unfold wpOpsS stepS
  rfl

theorem upon_weaker {o : Oper} {a : Act} {K K' : Act → World → Prop} {R : Exit → Act → World → Prop} (h : ∀ a w, K a w → K' a w) : ∀ r : Result Next, o.upon P a K R r → o.upon P a K' R r := by
  intro r hh
  cases r with
  | ok n w' =>
    cases n <;> simp only [Oper.upon] at hh ⊢
    all_goals first
      | exact h _ _ hh
      | exact Calls.mono hh (fun e w2 he => by cases e <;> first | exact h _ _ he | exact he)
      | exact Rows.mono hh (fun _ _ he => h _ _ he)
  | halt x w' => cases x <;> simp only [Oper.upon] at hh ⊢ <;> exact hh

theorem stepS_weaker {i : Nat} {K K' : Act → List Frame → World → Prop} (h : ∀ a cs w, K a cs w → K' a cs w) {a : Act} {cs : List Frame} {w : World} (hh : stepS P ops Q i K a cs w) : stepS P ops Q i K' a cs w := by
  unfold stepS at hh ⊢
  cases ho : ops[i]? with
  | none => simp only [ho] at hh ⊢; exact h _ _ _ hh
  | some o =>
    simp only [ho] at hh ⊢
    by_cases hw : Region.wanted o (yielded ops a.tmps) = true
    · simp only [hw, if_true] at hh ⊢
      split at hh
      · split at hh <;> exact h _ _ _ hh
      · exact upon_weaker (fun a w => h a cs w) _ hh
    · simp only [hw, if_false, Bool.false_eq_true] at hh ⊢
      exact h _ _ _ hh

/-- Whatever operation comes next, of those that may. -/
def anyS (P : Program) (ops : Array Oper) (Q : Exit → Act → List Frame → World → Prop) : Nat → Array Bool → Act → List Frame → World → Prop
  | 0, listed, a, cs, w => Region.ready .any ops listed = [] ∧ Q .normal a cs w
  | f + 1, listed, a, cs, w =>
    (Region.ready .any ops listed = [] → Q .normal a cs w) ∧ ∀ i ∈ Region.ready .any ops listed, stepS P ops Q i (anyS P ops Q f (listed.setIfInBounds i true)) a cs w

theorem anyS_all : ∀ (f t : Nat) (listed : Array Bool) (a : Act) (cs : List Frame) (w : World), anyS P ops Q f listed a cs w → wpOpsS P ops Q (Region.linearise.go .any ops f t listed []) a cs w := by
  intro f
  induction f with
  | zero => intro t listed a cs w h; simpa [Region.linearise.go, wpOpsS] using h.2
  | succ f ih =>
    intro t listed a cs w h
    obtain ⟨h0, h1⟩ := h
    rw [Region.linearise.go]
    change wpOpsS P ops Q (match (Region.ready .any ops listed)[t % (Region.ready .any ops listed).length]? with
      | some i => Region.linearise.go .any ops f (t / (Region.ready .any ops listed).length) (listed.setIfInBounds i true) [i]
      | none => [].reverse) a cs w
    cases hi : (Region.ready .any ops listed)[t % (Region.ready .any ops listed).length]? with
    | none =>
      have hnil : Region.ready .any ops listed = [] := by
        have hle := List.getElem?_eq_none_iff.1 hi
        by_cases hz : (Region.ready .any ops listed).length = 0
        · exact List.eq_nil_of_length_eq_zero hz
        · have := Nat.mod_lt t (Nat.pos_of_ne_zero hz)
          omega
      simpa [wpOpsS] using h0 hnil
    | some i =>
      simp only []
      rw [linearise_go_acc, List.reverse_singleton, List.singleton_append, wpOpsS_step]
      exact stepS_weaker (fun a cs w => ih _ _ a cs w) (h1 i (List.mem_of_getElem? hi))

theorem wpS_region_drawn {id : Nat} {a : Act} {cs : List Frame} {w : World} (hm : P.follows .mixedOrders = true)
    (h : anyS P ops Q ops.size (Array.replicate ops.size false) a cs w.drew) : (Code.region id ops true).wpS P Q a cs w := by
  intro b k hb hr
  have key : ∀ t, wpOpsS P ops Q (Region.schedule (P.follows .mixedOrders) ops t) a cs w.drew := fun t => by
    simp only [Region.schedule, hm, Bool.true_or, if_true]
    exact anyS_all ops.size t _ a cs _ h
  obtain ⟨e, a', cs', w', q, r⟩ := wp_opsS _ a cs _ (key (w.tape w.drawn (.order b.fn id))) b k hb hr
  exact ⟨e, a', cs', w', q, .of_steps (.one step_region_draw) r⟩

theorem stepS_value {i : Nat} {o : Oper} {K : Act → List Frame → World → Prop} {a : Act} {cs : List Frame} {w w' : World} {v : Value} (ho : ops[i]? = some o) (hg : o.guard = none)
    (hr : (execOp a.eval o).run P w = .ok (.value v) w') (h : K (a.put o.dst v) cs w') : stepS P ops Q i K a cs w := by
  unfold stepS
  simp only [ho, Region.wanted, hg, if_true, hr, Oper.upon]
  exact h
theorem stepS_skip {i : Nat} {o : Oper} {K : Act → List Frame → World → Prop} {a : Act} {cs : List Frame} {w w' : World} (ho : ops[i]? = some o) (hg : o.guard = none)
    (hr : (execOp a.eval o).run P w = .ok .skip w') (h : K (a.put o.dst undef) cs w') : stepS P ops Q i K a cs w := by
  unfold stepS
  simp only [ho, Region.wanted, hg, if_true, hr, Oper.upon]
  exact h
theorem stepS_recovered {i : Nat} {o : Oper} {K : Act → List Frame → World → Prop} {a : Act} {cs cs' : List Frame} {w w' : World} {v : Value} (ho : ops[i]? = some o) (hg : o.guard = none)
    (hr : (execOp a.eval o).run P w = .ok .recover w') (hc : recoverD cs = some (v, cs')) (h : K (a.put o.dst v) cs' w') : stepS P ops Q i K a cs w := by
  unfold stepS
  simp only [ho, Region.wanted, hg, if_true, hr, hc]
  exact h
theorem stepS_nothing {i : Nat} {o : Oper} {K : Act → List Frame → World → Prop} {a : Act} {cs : List Frame} {w w' : World} (ho : ops[i]? = some o) (hg : o.guard = none)
    (hr : (execOp a.eval o).run P w = .ok .recover w') (hc : recoverD cs = none) (h : K (a.put o.dst .nilIface) cs w') : stepS P ops Q i K a cs w := by
  unfold stepS
  simp only [ho, Region.wanted, hg, if_true, hr, hc]
  exact h
theorem stepS_calls {i : Nat} {o : Oper} {K : Act → List Frame → World → Prop} {a : Act} {cs : List Frame} {w w' : World} {f : FuncId} {args : Array Value} (ho : ops[i]? = some o) (hg : o.guard = none)
    (hr : (execOp a.eval o).run P w = .ok (.enter f args) w') (h : Calls P f args w' fun e w2 => ∃ v, e = .returned v ∧ K (a.put o.dst v) cs w2) : stepS P ops Q i K a cs w := by
  unfold stepS
  simp only [ho, Region.wanted, hg, if_true, hr, Oper.upon]
  refine h.mono fun e w2 hh => ?_
  obtain ⟨v, rfl, hk⟩ := hh
  exact hk

/-- The operations of a statement in the text's order. -/
def seqS (P : Program) (ops : Array Oper) (Q : Exit → Act → List Frame → World → Prop) (l : List Nat) (a : Act) (cs : List Frame) (w : World) : Prop := wpOpsS P ops Q l a cs w
theorem seqS_step {i : Nat} {rest : List Nat} {a : Act} {cs : List Frame} {w : World} (h : stepS P ops Q i (seqS P ops Q rest) a cs w) : seqS P ops Q (i :: rest) a cs w := by
  unfold seqS at h ⊢
  rw [wpOpsS_step]
  exact h
theorem seqS_end {a : Act} {cs : List Frame} {w : World} (h : Q .normal a cs w) : seqS P ops Q [] a cs w := h
theorem wpS_region_seq {id : Nat} {l : List Nat} {a : Act} {cs : List Frame} {w : World} (hl : List.range ops.size = l) (h : seqS P ops Q l a cs w) : (Code.region id ops false).wpS P Q a cs w := by
  subst hl
  exact wpS_region h

theorem anyS_step {rs : List Nat} {f : Nat} {listed : Array Bool} {a : Act} {cs : List Frame} {w : World} (hr : Region.ready .any ops listed = rs) (hne : rs ≠ [])
    (h : ∀ i ∈ rs, stepS P ops Q i (anyS P ops Q f (listed.setIfInBounds i true)) a cs w) : anyS P ops Q (f + 1) listed a cs w := ⟨fun h0 => absurd (hr ▸ h0) hne, hr ▸ h⟩
theorem anyS_end {listed : Array Bool} {a : Act} {cs : List Frame} {w : World} (hr : Region.ready .any ops listed = []) (h : Q .normal a cs w) : anyS P ops Q 0 listed a cs w := ⟨hr, h⟩
end
attribute [irreducible] stepS anyS seqS
end Go.Proofs.Ytbhdiklhpfackaa
