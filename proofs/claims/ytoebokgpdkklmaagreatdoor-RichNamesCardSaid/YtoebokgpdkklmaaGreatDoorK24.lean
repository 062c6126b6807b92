/-
  What reads a part, however many words there are; the whole text. A deferred function that recovers inside a statement whose order Go leaves open: what holds behind every order holds. Nothing of the program is named here. What the program's iterator over a text tells: words, and bytes that may not be as words of one byte; what it has to do with the words of the text. No program is named here. Conditions: as each theorem states.
-/
import Derived.Test.YtoebokgpdkklmaaGreatDoorK23
import Derived.Recover
import Derived.Orders
import Derived.WalkKit
import Derived.Test.YtoebokgpdkklmaaGreatDoorK03
namespace Go.Proofs.YtoebokgpdkklmaaGreatDoor
open Go.RowKit Rich Lex Span

theorem readK_all (w0 : World) (hRow : RowsW w0) (hOf : OfP8 w0) (e : Nat) : ∀ F, ReadK w0 e F := by
  intro F
  induction F with
  | zero => intro f hf; omega
  | succ F ih =>
    intro f hf ws o n G ao cp w r hl ho hn hw hG hsz hR hr
    obtain ⟨f1, rfl⟩ : ∃ f1, f = f1 + 1 := ⟨f - 1, by omega⟩
    have ih' : ReadK w0 e (f1 + 1) := fun f' hf' => ih f' (by omega)
    by_cases h40 : textW ws = [40]
    · rw [show fnN ws = 62 by unfold fnN; rw [if_pos h40]]
      match ws, h40, hl, hsz, hR, hr with
      | [], h40, _, _, _, _ => exact absurd h40 (by simp [textW])
      | (t, p) :: rest, h40, hl, hsz, hR, hr =>
        obtain rfl : t = [40] := h40
        by_cases h8 : o = 8
        · subst h8
          rw [read_deep] at hr
          exact (groupR_deep hR).mono fun ee w' ⟨h1, h2⟩ => by subst h1; exact ReadP.err hr.symm h2
        · by_cases h24 : 24 < n + 1
          · rw [read_many e f1 o n p [40] rest (by decide) (by decide) (fun _ => h8) h24] at hr
            exact (groupR_many hR h8 hn h24).mono fun ee w' ⟨h1, h2⟩ => by subst h1; exact ReadP.err hr.symm h2
          · exact groupR_main w0 hRow ih' hw hG hR (fun q hq => hsz q (List.mem_cons_of_mem _ hq)) (by simp at hl; omega) (by omega) (by omega) r hr
    · by_cases h41 : textW ws = [41] ∨ textW ws = []
      · rw [show fnN ws = 63 by unfold fnN; rw [if_neg h40, if_pos h41]]
        rw [read_not e f1 o n ws h41.symm] at hr
        exact (refuseR_walk hR).mono fun ee w' ⟨h1, h2⟩ => by subst h1; exact ReadP.err hr.symm h2
      · rw [show fnN ws = 64 by unfold fnN; rw [if_neg h40, if_neg h41]]
        match ws, h40, h41, hl, hsz, hR, hr with
        | [], _, h41, _, _, _, _ => exact absurd (.inr rfl) h41
        | (t, p) :: rest, h40, h41, hl, hsz, hR, hr =>
          by_cases h24 : 24 < n + 1
          · rw [read_many e f1 o n p t rest (fun h => h41 (.inr h)) (fun h => h41 (.inl h)) (fun h => absurd h h40) h24] at hr
            exact (plainR_many hR hn h24).mono fun ee w' ⟨h1, h2⟩ => by subst h1; exact ReadP.err hr.symm h2
          · rw [read_plain e f1 o n p t rest (fun h => h41 (.inr h)) (fun h => h41 (.inl h)) h40 (by omega)] at hr
            exact plainR_walk w0 hOf hw hG hR (by simp) hsz (by omega) r hr
/-- What reading all of it comes to. -/
def allR : Res → Except (Nat × Int) R
  | .error x => .error x
  | .ok (x, _, []) => .ok x
  | .ok (_, _, (_, a) :: _) => .error (a, 4)
theorem parseF_all {s : List UInt8} (h : (answer s).2.2 = 0) : parseF s = allR (readF s.length ((answer s).1.length + 1) 0 0 (answer s).1) := by
  unfold parseF
  rw [if_neg (by rw [h]; simp)]
  unfold allR
  cases readF s.length ((answer s).1.length + 1) 0 0 (answer s).1 with
  | error x => rfl
  | ok y =>
    obtain ⟨x, n, l⟩ := y
    cases l <;> rfl
def AllP (w : World) (G : Nat) (r : Except (Nat × Int) R) (ee : Ending) (w' : World) : Prop :=
  match r with
  | .ok x => (∃ v, ee = .returned v ∧ RichN w.heap.size w' x v) ∧ Kept (fun b => b = G) w w'
  | .error (p, er) => ee = .panicked [faultR p er] ∧ Kept (fun b => b = G) w w'
theorem AllP.ok {w : World} {G : Nat} {r : Except (Nat × Int) R} {x : R} {v : Value} {w' : World} (hr : r = .ok x) (h1 : RichN w.heap.size w' x v) (h3 : Kept (fun b => b = G) w w') : AllP w G r (.returned v) w' := by
  subst hr; exact ⟨⟨v, rfl, h1⟩, h3⟩
theorem AllP.err {w : World} {G : Nat} {r : Except (Nat × Int) R} {p : Nat} {er : Int} {w' : World} (hr : r = .error (p, er)) (h3 : Kept (fun b => b = G) w w') : AllP w G r (.panicked [faultR p er]) w' := by
  subst hr; exact ⟨rfl, h3⟩
set_option maxRecDepth 100000 in
set_option maxHeartbeats 8000000 in
theorem allR_walk (w0 : World) (hRow : RowsW w0) (hOf : OfP8 w0) {w : World} {G e : Nat} {ws : List Wd} {ao : Option Addr} {cp : Nat} (hw : Kept (fun _ => False) w0 w) (hG : w0.heap.size ≤ G) (h : RdW w G e ws 0 0 ao cp) (hsz : ∀ q ∈ ws, q.1.length ≤ 1000000) (r : Except (Nat × Int) R) (hrr : allR (readF e (ws.length + 1) 0 0 ws) = r) :
    Calls Tryz.prog 29 #[.pointer (some ⟨G, 0, none⟩)] w (AllP w G r) := by
  have hlt := h.box.lt
  have h1 := h.alloc (.cells #[.int .u8 0, .string ⟨#[]⟩, .int .u8 0, .int .i64 0, .string ⟨#[]⟩, .string ⟨#[]⟩, .slice none 0 0] 28)
  have NC := nextR_walk h1
  obtain ⟨ra, hra⟩ : ∃ ra, ra = readF e (ws.length + 1) 0 0 ws := ⟨_, rfl⟩
  rw [← hra] at hrr
  have RC := readK_all w0 hRow hOf e (ws.length + 2) (ws.length + 1) (by omega) ws 0 0 G ao cp _ ra (by omega) (by omega) (by omega) (hw.alloc _) hG hsz h1 hra.symm
  have hless := fun xa n2 ws2 (h : ra = .ok (xa, n2, ws2)) => read_less (hra.symm.trans h) (Nat.zero_le 8)
  have HB0 := Lib.hid (Box.made w 28 #[.int .u8 0, .string ⟨#[]⟩, .int .u8 0, .int .i64 0, .string ⟨#[]⟩, .string ⟨#[]⟩, .slice none 0 0])
  have hcn := callN ws
  have HRR := Lib.hid hrr
  have HK0 := Lib.hid ((Kept.refl (fun b => b = G) w).alloc (.cells #[.int .u8 0, .string ⟨#[]⟩, .int .u8 0, .int .i64 0, .string ⟨#[]⟩, .string ⟨#[]⟩, .slice none 0 0] 28))
  clear h h1 hw hG hsz hRow hOf hrr hra
  go_enter Tryz.func29, Tryz.ntmps29
  go_wp2_with (first
    | (go_at_call 43; refine NC.mono ?_; rintro ee w1 ⟨rfl, hww⟩; have hwx := Eq.symm hww; clear hww; subst hwx)
    | fail)
  cases ra with
  | error x =>
    obtain ⟨xp, xe⟩ := x
    refine RC.mono ?_
    rintro ee w5 ⟨rfl, hk5⟩
    go_wp2_with fail
    exact ⟨rfl, AllP.err HRR.out.symm (HK0.out.trans hk5 (fun _ _ h => h))⟩
  | ok y =>
    obtain ⟨xa, n2, ws2⟩ := y
    have HL := Lib.hid (hless xa n2 ws2 rfl)
    clear hless
    refine RC.mono ?_
    rintro ee w5 ⟨⟨v5, rfl, hv5⟩, hr5, hk5⟩
    obtain ⟨xk, xd, xl⟩ := xa
    have q5 := hv5.here
    rw [RichS] at q5
    obtain ⟨ao5, cp5, rfl, _⟩ := q5
    obtain ⟨aor, cpr, hr5⟩ := hr5
    have hsz5 := hk5.size
    have HV5 := Lib.hid hv5
    have HB5 := Lib.hid ((hk5.box HB0.out (by omega)).after_alloc (.cells (richA xk xd (.slice ao5 xl.length cp5)) 28))
    have HBr := Lib.hid (Box.made w5 28 (richA xk xd (.slice ao5 xl.length cp5)))
    have HK5 := Lib.hid ((HK0.out.trans hk5 (fun _ _ h => h)).alloc (.cells (richA xk xd (.slice ao5 xl.length cp5)) 28))
    have HR5 := Lib.hid (hr5.alloc (.cells (richA xk xd (.slice ao5 xl.length cp5)) 28))
    have c0 : (w5.alloc (.cells (richA xk xd (.slice ao5 xl.length cp5)) 28)).cell? ⟨G, 0, none⟩ = some (.slice aor ws2.length cpr) := HR5.out.box.cell 0
    have WR := wrongR_walk HR5.out 4
    have hfw := hr5.few
    simp only [World.size_alloc] at hsz5
    clear hv5 hk5 hr5 HB0 HK0 NC RC
    rcases ws2 with _ | ⟨⟨wt, wa⟩, wl⟩
    · have c0' : (w5.alloc (.cells (richA xk xd (.slice ao5 xl.length cp5)) 28)).cell? ⟨G, 0, none⟩ = some (.slice aor 0 cpr) := c0
      clear c0 WR
      have z0 := HB5.out.cell 0; have z1 := HB5.out.cell 1; have z2 := HB5.out.cell 2; have z3 := HB5.out.cell 3; have z4 := HB5.out.cell 4; have z5 := HB5.out.cell 5; have z6 := HB5.out.cell 6
      have y0 := HB5.out.free 0; have y1 := HB5.out.free 1; have y2 := HB5.out.free 2; have y3 := HB5.out.free 3; have y4 := HB5.out.free 4; have y5 := HB5.out.free 5; have y6 := HB5.out.free 6
      have x0 := HBr.out.cell 0; have x1 := HBr.out.cell 1; have x2 := HBr.out.cell 2; have x3 := HBr.out.cell 3; have x4 := HBr.out.cell 4; have x5 := HBr.out.cell 5; have x6 := HBr.out.cell 6
      go_wp2_with fail
      have hb7 := seven_box HB5.out (.int .u8 (xk : Int)) (.string ⟨xd.name.toArray⟩) (.int .u8 (xd.op : Int)) (.int .i64 xd.evr.epoch) (.string ⟨xd.evr.ver.toArray⟩) (.string ⟨xd.evr.rel.toArray⟩) (.slice ao5 xl.length cp5)
      have hk7 := seven_kept (S := fun b => b = w.heap.size) (Kept.refl _ (w5.alloc (.cells (richA xk xd (.slice ao5 xl.length cp5)) 28))) (g := w.heap.size) (.inl rfl) (.int .u8 (xk : Int)) (.string ⟨xd.name.toArray⟩) (.int .u8 (xd.op : Int)) (.int .i64 xd.evr.epoch) (.string ⟨xd.evr.ver.toArray⟩) (.string ⟨xd.evr.rel.toArray⟩) (.slice ao5 xl.length cp5)
      have hkr := ((Kept.refl (fun b => b < w.heap.size + 1) w5).alloc (.cells (richA xk xd (.slice ao5 xl.length cp5)) 28)).trans hk7 (fun i _ h => by omega)
      exact bodyPost_ret (copy_result rfl _ _ w.heap.size _ rfl hb7 rfl) rfl (AllP.ok HRR.out.symm (fun W' hW => HV5.out W' (by
        have h9 := hkr.trans hW (fun i _ h => by omega)
        rw [World.size_alloc]
        exact h9)) (HK5.out.trans hk7 (fun j hj h => by omega)))
    · have hlb : (0 : Int) < (((wt, wa) :: wl).length : Int) := by simp
      have hpl : placeW e ((wt, wa) :: wl) = wa := rfl
      rw [hpl] at WR
      generalize ((wt, wa) :: wl).length = m at *
      go_wp2_with (first
        | (go_at_call 44; refine WR.mono ?_; rintro ee w6 ⟨rfl, hk6⟩)
        | fail)
      exact ⟨rfl, AllP.err HRR.out.symm (HK5.out.trans hk6 (fun _ _ h => h.elim))⟩
end Go.Proofs.YtoebokgpdkklmaaGreatDoor

namespace Go.Proofs.YtoebokgpdkklmaaGreatDoor

/-- One operation of a deferred function. -/
def stepS (P : Program) (ops : Array Oper) (Q : Exit → Act → List Frame → World → Prop) (i : Nat) (K : Act → List Frame → World → Prop) (a : Act) (cs : List Frame) (w : World) : Prop :=
  match ops[i]? with
  | none => K a cs w
  | some o =>
    if Region.wanted o (yielded ops a.tmps) then
      match (execOp a.eval o).run P w with
      | .ok .recover w' =>
        match recoverD cs with
        | some (v, cs') => K (a.put o.dst v) cs' w'
        | none => K (a.put o.dst .nilIface) cs w'
      | r => o.upon P a (fun a' w' => K a' cs w') (fun e a' w' => Q e a' cs w') r
    else K (a.put o.dst undef) cs w

section
variable {P : Program} {ops : Array Oper} {Q : Exit → Act → List Frame → World → Prop}

theorem wpOpsS_step (i : Nat) (rest : List Nat) (a : Act) (cs : List Frame) (w : World) : wpOpsS P ops Q (i :: rest) a cs w = stepS P ops Q i (wpOpsS P ops Q rest) a cs w := by
  unfold wpOpsS stepS
  rfl

theorem upon_weaker {o : Oper} {a : Act} {K K' : Act → World → Prop} {R : Exit → Act → World → Prop} (h : ∀ a w, K a w → K' a w) : ∀ r : Result Next, o.upon P a K R r → o.upon P a K' R r := by
  intro r hh
  cases r with
  | ok n w' =>
    cases n <;> simp only [Oper.upon] at hh ⊢
    all_goals first
      | exact h _ _ hh
      | exact Calls.mono hh (fun e w2 he => by cases e <;> first | exact h _ _ he | exact he)
      | exact Rows.mono hh (fun _ _ he => h _ _ he)
  | halt x w' => cases x <;> simp only [Oper.upon] at hh ⊢ <;> exact hh

theorem stepS_weaker {i : Nat} {K K' : Act → List Frame → World → Prop} (h : ∀ a cs w, K a cs w → K' a cs w) {a : Act} {cs : List Frame} {w : World} (hh : stepS P ops Q i K a cs w) : stepS P ops Q i K' a cs w := by
  unfold stepS at hh ⊢
  cases ho : ops[i]? with
  | none => simp only [ho] at hh ⊢; exact h _ _ _ hh
  | some o =>
    simp only [ho] at hh ⊢
    by_cases hw : Region.wanted o (yielded ops a.tmps) = true
    · simp only [hw, if_true] at hh ⊢
      split at hh
      · split at hh <;> exact h _ _ _ hh
      · exact upon_weaker (fun a w => h a cs w) _ hh
    · simp only [hw, if_false, Bool.false_eq_true] at hh ⊢
      exact h _ _ _ hh

/-- Whatever operation comes next, of those that may. -/
def anyS (P : Program) (ops : Array Oper) (Q : Exit → Act → List Frame → World → Prop) : Nat → Array Bool → Act → List Frame → World → Prop
  | 0, listed, a, cs, w => Region.ready .any ops listed = [] ∧ Q .normal a cs w
  | f + 1, listed, a, cs, w =>
    (Region.ready .any ops listed = [] → Q .normal a cs w) ∧ ∀ i ∈ Region.ready .any ops listed, stepS P ops Q i (anyS P ops Q f (listed.setIfInBounds i true)) a cs w

theorem anyS_all : ∀ (f t : Nat) (listed : Array Bool) (a : Act) (cs : List Frame) (w : World), anyS P ops Q f listed a cs w → wpOpsS P ops Q (Region.linearise.go .any ops f t listed []) a cs w := by
  intro f
  induction f with
  | zero => intro t listed a cs w h; simpa [Region.linearise.go, wpOpsS] using h.2
  | succ f ih =>
    intro t listed a cs w h
    obtain ⟨h0, h1⟩ := h
    rw [Region.linearise.go]
    change wpOpsS P ops Q (match (Region.ready .any ops listed)[t % (Region.ready .any ops listed).length]? with
      | some i => Region.linearise.go .any ops f (t / (Region.ready .any ops listed).length) (listed.setIfInBounds i true) [i]
      | none => [].reverse) a cs w
    cases hi : (Region.ready .any ops listed)[t % (Region.ready .any ops listed).length]? with
    | none =>
      have hnil : Region.ready .any ops listed = [] := by
        have hle := List.getElem?_eq_none_iff.1 hi
        by_cases hz : (Region.ready .any ops listed).length = 0
        · exact List.eq_nil_of_length_eq_zero hz
        · have := Nat.mod_lt t (Nat.pos_of_ne_zero hz)
          omega
      simpa [wpOpsS] using h0 hnil
    | some i =>
      simp only []
      rw [linearise_go_acc, List.reverse_singleton, List.singleton_append, wpOpsS_step]
      exact stepS_weaker (fun a cs w => ih _ _ a cs w) (h1 i (List.mem_of_getElem? hi))

theorem wpS_region_drawn {id : Nat} {a : Act} {cs : List Frame} {w : World} (hm : P.follows .mixedOrders = true)
    (h : anyS P ops Q ops.size (Array.replicate ops.size false) a cs w.drew) : (Code.region id ops true).wpS P Q a cs w := by
  intro b k hb hr
  have key : ∀ t, wpOpsS P ops Q (Region.schedule (P.follows .mixedOrders) ops t) a cs w.drew := fun t => by
    simp only [Region.schedule, hm, Bool.true_or, if_true]
    exact anyS_all ops.size t _ a cs _ h
  obtain ⟨e, a', cs', w', q, r⟩ := wp_opsS _ a cs _ (key (w.tape w.drawn (.order b.fn id))) b k hb hr
  exact ⟨e, a', cs', w', q, .of_steps (.one step_region_draw) r⟩

theorem stepS_value {i : Nat} {o : Oper} {K : Act → List Frame → World → Prop} {a : Act} {cs : List Frame} {w w' : World} {v : Value} (ho : ops[i]? = some o) (hg : o.guard = none)
    (hr : (execOp a.eval o).run P w = .ok (.value v) w') (h : K (a.put o.dst v) cs w') : stepS P ops Q i K a cs w := by
  unfold stepS
  simp only [ho, Region.wanted, hg, if_true, hr, Oper.upon]
  exact h
theorem stepS_skip {i : Nat} {o : Oper} {K : Act → List Frame → World → Prop} {a : Act} {cs : List Frame} {w w' : World} (ho : ops[i]? = some o) (hg : o.guard = none)
    (hr : (execOp a.eval o).run P w = .ok .skip w') (h : K (a.put o.dst undef) cs w') : stepS P ops Q i K a cs w := by
  unfold stepS
  simp only [ho, Region.wanted, hg, if_true, hr, Oper.upon]
  exact h
theorem stepS_recovered {i : Nat} {o : Oper} {K : Act → List Frame → World → Prop} {a : Act} {cs cs' : List Frame} {w w' : World} {v : Value} (ho : ops[i]? = some o) (hg : o.guard = none)
    (hr : (execOp a.eval o).run P w = .ok .recover w') (hc : recoverD cs = some (v, cs')) (h : K (a.put o.dst v) cs' w') : stepS P ops Q i K a cs w := by
  unfold stepS
  simp only [ho, Region.wanted, hg, if_true, hr, hc]
  exact h
theorem stepS_nothing {i : Nat} {o : Oper} {K : Act → List Frame → World → Prop} {a : Act} {cs : List Frame} {w w' : World} (ho : ops[i]? = some o) (hg : o.guard = none)
    (hr : (execOp a.eval o).run P w = .ok .recover w') (hc : recoverD cs = none) (h : K (a.put o.dst .nilIface) cs w') : stepS P ops Q i K a cs w := by
  unfold stepS
  simp only [ho, Region.wanted, hg, if_true, hr, hc]
  exact h
theorem stepS_calls {i : Nat} {o : Oper} {K : Act → List Frame → World → Prop} {a : Act} {cs : List Frame} {w w' : World} {f : FuncId} {args : Array Value} (ho : ops[i]? = some o) (hg : o.guard = none)
    (hr : (execOp a.eval o).run P w = .ok (.enter f args) w') (h : Calls P f args w' fun e w2 => ∃ v, e = .returned v ∧ K (a.put o.dst v) cs w2) : stepS P ops Q i K a cs w := by
  unfold stepS
  simp only [ho, Region.wanted, hg, if_true, hr, Oper.upon]
  refine h.mono fun e w2 hh => ?_
  obtain ⟨v, rfl, hk⟩ := hh
  exact hk

/-- The operations of a statement in the text's order. -/
def seqS (P : Program) (ops : Array Oper) (Q : Exit → Act → List Frame → World → Prop) (l : List Nat) (a : Act) (cs : List Frame) (w : World) : Prop := wpOpsS P ops Q l a cs w
theorem seqS_step {i : Nat} {rest : List Nat} {a : Act} {cs : List Frame} {w : World} (h : stepS P ops Q i (seqS P ops Q rest) a cs w) : seqS P ops Q (i :: rest) a cs w := by
  unfold seqS at h ⊢
  rw [wpOpsS_step]
  exact h
theorem seqS_end {a : Act} {cs : List Frame} {w : World} (h : Q .normal a cs w) : seqS P ops Q [] a cs w := h
theorem wpS_region_seq {id : Nat} {l : List Nat} {a : Act} {cs : List Frame} {w : World} (hl : List.range ops.size = l) (h : seqS P ops Q l a cs w) : (Code.region id ops false).wpS P Q a cs w := by
  subst hl
  exact wpS_region h

theorem anyS_step {rs : List Nat} {f : Nat} {listed : Array Bool} {a : Act} {cs : List Frame} {w : World} (hr : Region.ready .any ops listed = rs) (hne : rs ≠ [])
    (h : ∀ i ∈ rs, stepS P ops Q i (anyS P ops Q f (listed.setIfInBounds i true)) a cs w) : anyS P ops Q (f + 1) listed a cs w := ⟨fun h0 => absurd (hr ▸ h0) hne, hr ▸ h⟩
theorem anyS_end {listed : Array Bool} {a : Act} {cs : List Frame} {w : World} (hr : Region.ready .any ops listed = []) (h : Q .normal a cs w) : anyS P ops Q 0 listed a cs w := ⟨hr, h⟩
end
attribute [irreducible] stepS anyS seqS
end Go.Proofs.YtoebokgpdkklmaaGreatDoor

namespace Go.Proofs.YtoebokgpdkklmaaGreatDoor
namespace Lex

/-- A word that is not empty: its first byte, the others, its place. -/
abbrev Tk := (UInt8 × List UInt8) × Nat
def w2 (t : Tk) : Wd := (t.1.1 :: t.1.2, t.2)
/-- Words, and bytes that may not be, as they come. -/
def toks : Nat → List UInt8 → List Tk
  | _, [] => []
  | p, b :: l =>
    if kind b = 2 then ((b, l.takeWhile k2), p) :: toks (p + 1 + (l.takeWhile k2).length) (l.dropWhile k2)
    else if kind b = 0 then toks (p + 1) l
    else ((b, []), p) :: toks (p + 1) l
  termination_by _ l => l.length
  decreasing_by
    · exact Nat.lt_succ_of_le (List.dropWhile_sublist k2).length_le
    · simp
    · simp
/-- What a text begins with. -/
def hd7 (b : UInt8) (l : List UInt8) : List UInt8 := if kind b = 2 then l.takeWhile k2 else []
theorem toks_nil (p : Nat) : toks p [] = [] := by rw [toks]
theorem drop_take_len {p : UInt8 → Bool} : ∀ l : List UInt8, l.drop (l.takeWhile p).length = l.dropWhile p
  | [] => rfl
  | b :: l => by
    by_cases h : p b = true
    · rw [List.takeWhile_cons_of_pos h, List.dropWhile_cons_of_pos h, List.length_cons, List.drop_succ_cons]
      exact drop_take_len l
    · rw [List.takeWhile_cons_of_neg h, List.dropWhile_cons_of_neg h]
      rfl
theorem toks_step (p : Nat) (b : UInt8) (l : List UInt8) : toks p (b :: l) = (if kind b = 0 then [] else [((b, hd7 b l), p)]) ++ toks (p + 1 + (hd7 b l).length) (l.drop (hd7 b l).length) := by
  rw [toks]
  unfold hd7
  by_cases h2 : kind b = 2
  · rw [if_pos h2, if_pos h2, if_neg (by omega), drop_take_len]
    rfl
  · rw [if_neg h2, if_neg h2]
    by_cases h0 : kind b = 0
    · rw [if_pos h0, if_pos h0]
      rfl
    · rw [if_neg h0, if_neg h0]
      rfl
theorem hd7_len (b : UInt8) (l : List UInt8) : (hd7 b l).length ≤ l.length := by
  unfold hd7
  split
  · exact (List.takeWhile_sublist k2).length_le
  · simp
theorem toks_good : ∀ (n : Nat) (l : List UInt8), l.length ≤ n → (∀ b ∈ l, kind b ≠ 3) → ∀ p, (toks p l).map w2 = cont none p l ∧ ∀ t ∈ toks p l, kind t.1.1 ≠ 3
  | _, [], _, _, p => by rw [toks_nil]; exact ⟨rfl, by simp⟩
  | 0, b :: l, h, _, _ => by simp at h
  | n + 1, b :: l, h, h3, p => by
    have hl : l.length ≤ n := by simpa using h
    have h3' : ∀ c ∈ l, kind c ≠ 3 := fun c hc => h3 c (by simp [hc])
    have hb := h3 b (by simp)
    have hle := kind_le b
    rw [toks]
    by_cases h2 : kind b = 2
    · rw [if_pos h2, cont_word h2 p l h3']
      obtain ⟨i1, i2⟩ := toks_good n (l.dropWhile k2) (Nat.le_trans (List.dropWhile_sublist k2).length_le hl) (fun c hc => h3' c ((List.dropWhile_sublist k2).subset hc)) (p + 1 + (l.takeWhile k2).length)
      refine ⟨?_, ?_⟩
      · rw [List.map_cons, i1]
        rfl
      · intro t ht
        rcases List.mem_cons.1 ht with rfl | ht
        · exact hb
        · exact i2 t ht
    · rw [if_neg h2]
      obtain ⟨i1, i2⟩ := toks_good n l hl h3' (p + 1)
      by_cases h0 : kind b = 0
      · rw [if_pos h0, cont_space none p l h0]
        exact ⟨i1, i2⟩
      · rw [if_neg h0, cont_bracket none p l (by omega)]
        refine ⟨?_, ?_⟩
        · rw [List.map_cons, i1]
          rfl
        · intro t ht
          rcases List.mem_cons.1 ht with rfl | ht
          · exact hb
          · exact i2 t ht
theorem bad_cons (b : UInt8) (l : List UInt8) : bad (b :: l) = if kind b = 3 then some 0 else (bad l).map (· + 1) := rfl
theorem bad_drop : ∀ (l : List UInt8) (i : Nat), bad l = some i → (l.takeWhile k2).length ≤ i ∧ bad (l.dropWhile k2) = some (i - (l.takeWhile k2).length)
  | [], _, h => by simp [bad] at h
  | b :: l, i, h => by
    by_cases hb : k2 b = true
    · rw [List.takeWhile_cons_of_pos hb, List.dropWhile_cons_of_pos hb]
      rw [bad_cons, if_neg (by have : kind b = 2 := by simpa [k2] using hb
                               omega)] at h
      obtain ⟨j, hj, rfl⟩ := Option.map_eq_some_iff.1 h
      obtain ⟨i1, i2⟩ := bad_drop l j hj
      refine ⟨by simp; omega, ?_⟩
      rw [i2]
      congr 1
      simp
    · rw [List.takeWhile_cons_of_neg hb, List.dropWhile_cons_of_neg hb]
      exact ⟨Nat.zero_le _, h⟩
theorem toks_bad : ∀ (n : Nat) (l : List UInt8), l.length ≤ n → ∀ (p i : Nat), bad l = some i → ∃ pre b rest, toks p l = pre ++ ((b, []), p + i) :: rest ∧ kind b = 3 ∧ ∀ t ∈ pre, kind t.1.1 ≠ 3
  | _, [], _, _, _, h => by simp [bad] at h
  | 0, b :: l, h, _, _, _ => by simp at h
  | n + 1, b :: l, h, p, i, hb => by
    have hl : l.length ≤ n := by simpa using h
    rw [toks]
    rw [bad_cons] at hb
    by_cases h3 : kind b = 3
    · rw [if_pos h3] at hb
      injection hb with hb
      subst hb
      rw [if_neg (by omega), if_neg (by omega)]
      exact ⟨[], b, _, rfl, h3, by simp⟩
    · rw [if_neg h3] at hb
      obtain ⟨j, hj, rfl⟩ := Option.map_eq_some_iff.1 hb
      by_cases h2 : kind b = 2
      · rw [if_pos h2]
        obtain ⟨d1, d2⟩ := bad_drop l j hj
        obtain ⟨pre, c, rest, e, hc, hp⟩ := toks_bad n (l.dropWhile k2) (Nat.le_trans (List.dropWhile_sublist k2).length_le hl) (p + 1 + (l.takeWhile k2).length) _ d2
        refine ⟨((b, l.takeWhile k2), p) :: pre, c, rest, ?_, hc, ?_⟩
        · rw [e, show p + 1 + (l.takeWhile k2).length + (j - (l.takeWhile k2).length) = p + (j + 1) by omega]
          rfl
        · intro t ht
          rcases List.mem_cons.1 ht with rfl | ht
          · exact h3
          · exact hp t ht
      · rw [if_neg h2]
        obtain ⟨pre, c, rest, e, hc, hp⟩ := toks_bad n l hl (p + 1) j hj
        have ep : p + 1 + j = p + (j + 1) := by omega
        rw [ep] at e
        by_cases h0 : kind b = 0
        · rw [if_pos h0]
          exact ⟨pre, c, rest, e, hc, hp⟩
        · rw [if_neg h0]
          refine ⟨((b, []), p) :: pre, c, rest, by rw [e]; rfl, hc, ?_⟩
          intro t ht
          rcases List.mem_cons.1 ht with rfl | ht
          · exact h3
          · exact hp t ht
/-- All of them were good: so no byte is bad, and they are the words. -/
theorem toks_all {s : List UInt8} (h : ∀ t ∈ toks 0 s, kind t.1.1 ≠ 3) : bad s = none ∧ (toks 0 s).map w2 = words s := by
  cases hb : bad s with
  | none => exact ⟨rfl, (toks_good s.length s (Nat.le_refl _) (bad_none.1 hb) 0).1⟩
  | some i =>
    obtain ⟨pre, b, rest, e, h3, _⟩ := toks_bad s.length s (Nat.le_refl _) 0 i hb
    exact absurd h3 (h ((b, []), 0 + i) (by rw [e]; simp))
/-- The first that was bad: it is the first bad byte. -/
theorem toks_first {s : List UInt8} {p0 : List Tk} {x : Tk} (h : p0 ++ [x] <+: toks 0 s) (h0 : ∀ t ∈ p0, kind t.1.1 ≠ 3) (h3 : kind x.1.1 = 3) : bad s = some x.2 := by
  obtain ⟨r, hr⟩ := h
  cases hb : bad s with
  | none => exact absurd h3 ((toks_good s.length s (Nat.le_refl _) (bad_none.1 hb) 0).2 x (by rw [← hr]; simp))
  | some i =>
    obtain ⟨pre, b, rest, e, hk, hp⟩ := toks_bad s.length s (Nat.le_refl _) 0 i hb
    rw [Nat.zero_add] at e
    rw [e, List.append_assoc, List.singleton_append] at hr
    have key : ∀ (a c : List Tk) (u v : Tk) (ra rc : List Tk), a ++ u :: ra = c ++ v :: rc → (∀ t ∈ a, kind t.1.1 ≠ 3) → (∀ t ∈ c, kind t.1.1 ≠ 3) → kind u.1.1 = 3 → kind v.1.1 = 3 → u = v := by
      intro a
      induction a with
      | nil =>
        intro c u v ra rc he _ hc hu _
        cases c with
        | nil => injection he
        | cons d c =>
          injection he with h1 _
          exact absurd hu (by rw [h1]; exact hc d (by simp))
      | cons d a ih =>
        intro c u v ra rc he ha hc hu hv
        cases c with
        | nil =>
          injection he with h1 _
          exact absurd hv (by rw [← h1]; exact ha d (by simp))
        | cons d' c =>
          injection he with _ h2
          exact ih c u v ra rc h2 (fun t ht => ha t (by simp [ht])) (fun t ht => hc t (by simp [ht])) hu hv
    rw [key p0 pre x ((b, []), i) _ _ hr h0 hp h3 hk]
theorem toks_len : ∀ (n : Nat) (l : List UInt8), l.length ≤ n → ∀ p, (toks p l).length ≤ l.length
  | _, [], _, p => by rw [toks_nil]; simp
  | 0, b :: l, h, _ => by simp at h
  | n + 1, b :: l, h, p => by
    have hl : l.length ≤ n := by simpa using h
    rw [toks]
    split
    · have := toks_len n (l.dropWhile k2) (Nat.le_trans (List.dropWhile_sublist k2).length_le hl) (p + 1 + (l.takeWhile k2).length)
      have := (List.dropWhile_sublist (l := l) k2).length_le
      simp only [List.length_cons]
      omega
    · have := toks_len n l hl (p + 1)
      split <;> simp only [List.length_cons] <;> omega
end Lex
end Go.Proofs.YtoebokgpdkklmaaGreatDoor
