/-
  The walk over the program's All (layer 10). A world in which the first cells of rich rows were written (layer 10). Conditions: as each theorem states.
-/
import Derived.Test.YtlpalepkomkngaaGreatDoorK37
import Derived.Test.YtlpalepkomkngaaGreatDoorK38
import Derived.Test.YtlpalepkomkngaaGreatDoorK36
namespace Go.Proofs.YtlpalepkomkngaaGreatDoor
open Go.RowKit Ver Evr Span Dep Rich Go.Shelf
attribute [local go_sem] Oper.semAt_some

theorem result_all10 (W : World) (v : Value) (tmps : Array Value) (h1 : tmps[2]?.getD undef = v) :
    (results Tryz.f11 tmps).run Tryz.prog W = .ok v W := by
  simp [results, Tryz.results11, go_sem, h1]
/-- What is told of the row so far. -/
def RowA (g base B : Nat) (l : List R) (w : World) : Prop := ∃ (v : Value) (ps : List Pc), Boxed w g 25 v ∧ w.ownsRow base 39 7 v ps.length (Rich.cellsP ps) ∧ ps.map Prod.fst = l ∧ ∀ p ∈ ps, ElB B v w p
theorem RowA.kept {g base B : Nat} {l : List R} {w w' : World} (h : RowA g base B l w) (hk : Kept (fun _ => False) w w') : RowA g base B l w' := by
  obtain ⟨v, ps, h1, h2, h3, h4⟩ := h
  exact ⟨v, ps, hk.box (show Box w g 25 #[v] from h1) (fun h => h), hk.owns h2 (fun _ _ h => h), h3, fun p hp => (h4 p hp).kept hk⟩
theorem rowA_own {β : Type} {g base B N : Nat} (f : β → List R) : OwnFrom N (fun s W => RowA g base B (f s) W) := fun s X Y row hs hg hr => by
  obtain ⟨v, ps, h1, h2, h3, h4⟩ := hs
  have hr' : ∀ r, row = some r → ∃ o : Obj, X.heap[r]? = some o ∧ o.isCells = false := fun r e => (hr r e).2
  refine ⟨v, ps, boxed_own g 25 (fun (_ : Unit) => v) () X Y row h1 hg hr', ?_, h3, fun p hp => (h4 p hp).own hg hr'⟩
  obtain ⟨v2, hb2, ho2, rfl⟩ := holdsRow_own base g 25 39 7 (fun (_ : Unit) => ps.length) (fun _ => Rich.cellsP ps) (fun _ u => u = v) () X Y row ⟨v, h1, h2, rfl⟩ hg hr'
  exact ho2
theorem wp_append_src10 {P : Program} {w : World} {o : Oper} {a : Act} {K : Act → World → Prop} {Q : Exit → Act → World → Prop} (s x : Operand) (t : TypeId)
    (ho : o.op = .call { callee := .builtin .append, args := #[s, x], argTypes := #[t, t] })
    (base : Nat) (e : TypeId) (i : TypeInfo) (z : Value) (size bytes : Nat) (ht : P.underlying t = some (.slice e)) (hi : P.info? e = some i) (hz : i.zero = some z)
    (hsize : i.size = size) (hby : i.bytes = bytes) (hzs : z.cells.size = size) (hsz : 0 < size)
    (v : Value) (n : Nat) (xs : List Value) (hs : a.eval s = v) (hown : w.ownsRow base e size v n xs)
    (ao : Option Addr) (m c : Nat) (news : List Value) (hx : a.eval x = .slice ao m c) (hnil : ao = none → m = 0 ∧ c = 0) (hl : news.length = m * size) (hnews : ∀ j u, news[j]? = some u → ∃ ad, ao = some ad ∧ w.cell? (ad.add j) = some u) (h1 : ∀ u ∈ news, u.oneCell' = true)
    (h63 : n + m ≤ maxLen) (hbytes : (n + m) * bytes ≤ 140737488355328) (hbase : base ≤ w.heap.size)
    (h : ∀ v' w', w'.ownsRow base e size v' (n + m) (xs ++ news) → w.grownBy w' v.ownBlock → (v'.ownBlock = v.ownBlock ∨ v'.ownBlock = some w.heap.size) → K (a.put o.dst v') w') : o.wp P a w K Q := by
  obtain ⟨v', w', hr, h2, h3, h4⟩ := run_append_src (P := P) (w := w) base t o.type e i z size bytes ht hi hz hsize hby hzs hsz v n xs hown ao m c news hnil hl hnews h1 h63 hbytes hbase
  unfold Oper.wp execOp
  simp only [ho, resolve, invoke, builtin, Sem.run_bind, Sem.run_pure, Result.andThen_ok, List.map_toArray, List.map_cons, List.map_nil, hs, hx, hr]
  exact h v' w' h2 h3 h4
theorem app_fin {W w w5 w6 : World} {base B n m size : Nat} {t e : TypeId} {V0 v' : Value} {xs ys : List Value} (hte : t ≠ e) (hv : Boxed W B t V0) (hrow : W.ownsRow base e size V0 n xs) (hB : base ≤ B)
    (hk : Kept (fun _ => False) W w) (hg : w.grownBy w5 V0.ownBlock) (hwh : v'.ownBlock = V0.ownBlock ∨ v'.ownBlock = some w.heap.size) (hown : w5.ownsRow base e size v' m ys) (hk6 : Kept (fun b => b = B) w5 w6) (hv6 : Boxed w6 B t V0) :
    Boxed (w6.setCell ⟨B, 0, none⟩ v') B t v' ∧ (w6.setCell ⟨B, 0, none⟩ v').ownsRow base e size v' m ys ∧ KeepsOthers W (w6.setCell ⟨B, 0, none⟩ v') ∧ KpM (OwnB B) W (w6.setCell ⟨B, 0, none⟩ v') ∧ Kept (fun i => base ≤ i) W (w6.setCell ⟨B, 0, none⟩ v') := by
  have s1 := hk.size
  have s2 := hg.size
  have s3 := hk6.size
  have hss : (w6.setCell ⟨B, 0, none⟩ v').heap.size = w6.heap.size := by simp [World.setCell]
  have hset := hv6.set v'
  have hne : ∀ j, v'.ownBlock = some j → j ≠ B := fun j hj hjB => by
    subst hjB
    have h1 := hown.lt j hj
    rcases hown.2 with ⟨h2, _⟩ | ⟨g, cap, cur, h2, _, h3, _⟩
    · subst h2; simp [Value.ownBlock] at hj
    · subst h2
      have : g = j := by simpa [Value.ownBlock] using hj
      subst this
      have h5 : w5.heap[g]? = some (.cells #[V0] t (0, 0)) := by
        have hvw : Boxed w g t V0 := (hk.block g hv.lt (fun h => h)).trans hv
        rcases hwh with hw | hw
        · exact absurd (hw.symm.trans hj) (fun h => (hv.not_row hte hrow) h.symm)
        · rw [hw] at hj
          injection hj with hj
          have := hv.lt
          omega
      rw [h5] at h3
      injection h3 with h3
      injection h3 with _ h3
      exact hte h3
  have chain : ∀ i, i < W.heap.size → i ≠ B → V0.ownBlock ≠ some i → (w6.setCell ⟨B, 0, none⟩ v').heap[i]? = W.heap[i]? := fun i hi h1 h2 =>
    (Below.heap_setCell w6 _ _ i h1).trans ((hk6.block i (by omega) h1).trans ((hg.block i (by omega) (fun e => h2 e.symm)).trans (hk.block i hi (fun h => h))))
  refine ⟨hset, ?_, ⟨by omega, fun i o hi hc => ?_⟩, ⟨by omega, fun i o hi ho hm => ?_, fun i hi => ?_⟩, ⟨?_, ?_, ?_, by omega, fun i hi hs => ?_⟩⟩
  · exact (Kept.setCell (S := fun b => b = B) (Kept.refl _ w6) (p := ⟨B, 0, none⟩) (.inl rfl) v').owns (hk6.owns hown (fun j hj h => hne j hj h)) (fun j hj h => hne j hj h)
  · refine (chain i (Array.getElem?_eq_some_iff.1 hi).1 (fun e => ?_) (fun e => ?_)).trans hi
    · subst e; rw [show W.heap[i]? = _ from hv] at hi; cases hi; cases hc
    · rcases hrow.2 with ⟨h2, _⟩ | ⟨g, cap, cur, h2, _, h3, _⟩
      · subst h2; simp [Value.ownBlock] at e
      · subst h2
        have : g = i := by simpa [Value.ownBlock] using e
        subst this
        rw [h3] at hi; cases hi; cases hc
  · exact (chain i (Array.getElem?_eq_some_iff.1 hi).1 (fun e => hm (.inl e)) (fun e => hm (.inr ⟨V0, hv.cell, e⟩))).trans hi
  · rcases hi with hi | ⟨u, h1, h2⟩
    · exact .inl (.inl hi)
    · rw [hset.cell] at h1
      cases h1
      rcases hwh with hb | hb
      · exact .inl (.inr ⟨V0, hv.cell, by rw [← hb]; exact h2⟩)
      · right
        have h3 := (hown.lt i h2).2
        rw [hb] at h2
        cases h2
        omega
  · exact (hk6.os.trans hg.os).trans hk.os
  · exact (hk6.tape.trans hg.tape).trans hk.tape
  · exact (hk6.output.trans hg.output).trans hk.output
  · exact chain i hi (fun e => hs (by rw [e]; exact hB)) (fun e => hs (hrow.lt i e).1)
/-- What the slots hold of the region that puts a list's copy behind the row. -/
def SL10 (g base B : Nat) (W : World) (v0 u1 : Value) (ps : List Pc) (lx : List R) : Nat → World → Value → Prop
  | 0, _, v => v = v0
  | 1, _, v => v = u1
  | 2, w, v => ∃ ps' : List Pc, ps'.map Prod.fst = lx ∧ (∃ b, W.heap.size ≤ b ∧ w.ownsRow b 39 7 v lx.length (Rich.cellsP ps')) ∧ ∀ p ∈ ps', ElB B v0 w p
  | 3, w, v => ∃ (ps' : List Pc) (w3 w5 : World), ps'.map Prod.fst = lx ∧ Kept (fun _ => False) W w3 ∧ w3.grownBy w5 v0.ownBlock ∧ (v.ownBlock = v0.ownBlock ∨ v.ownBlock = some w3.heap.size) ∧ w5.ownsRow base 39 7 v (ps.length + lx.length) (Rich.cellsP ps ++ Rich.cellsP ps') ∧ (∀ p ∈ ps ++ ps', ElB B v w5 p) ∧ Kept (fun b => b = g) w5 w
  | _, _, _ => True
def RL10 (g : Nat) (v0 : Value) : Nat → World → World → Prop
  | 3, w, w' => w.grownBy w' v0.ownBlock
  | 4, w, w' => Kept (fun b => b = g) w w'
  | _, w, w' => Kept (fun _ => False) w w'
theorem ElB.keptG {B g : Nat} {v : Value} {w w' : World} {p : Pc} (h : ElB B v w p) (hgB : g < B) (hk : Kept (fun b => b = g) w w') : ElB B v w' p := by
  obtain ⟨h1, b5, ps5, h2, h3, h4⟩ := h
  exact ⟨RichB.on hk.size (fun b o u hP hb hc => (hk.cell (p := ⟨b, o, none⟩) hb (fun e => by have h8 : b = g := e; have := hP.1; omega)).trans hc) (fun _ h _ => h) _ _ h1, b5, ps5, h2, hk.owns h3 (fun i hi e => by have := (h3.lt i hi).1; omega), h4⟩
theorem SL10.step {g base B : Nat} {W : World} {v0 u1 : Value} {ps : List Pc} {lx : List R} (hgB : g < B) (hg : g < W.heap.size) (hV : ∀ j, v0.ownBlock = some j → j < W.heap.size) (i j : Nat) (w w' : World) (v : Value) (hne : j ≠ i) (hR : RL10 g v0 i w w') (h : SL10 g base B W v0 u1 ps lx j w v) : SL10 g base B W v0 u1 ps lx j w' v := by
  match j, h with
  | 0, h => exact h
  | 1, h => exact h
  | 2, ⟨ps', h1, ⟨b, h2, h3⟩, h4⟩ =>
    refine ⟨ps', h1, ⟨b, h2, ?_⟩, fun p hp => ?_⟩
    · match i, hR with
      | 3, hR => exact owns_of10 h3 (fun k hk => hR.block k (h3.lt k hk).2 (fun e => by have := hV k e.symm; have := (h3.lt k hk).1; omega))
      | 4, hR => exact hR.owns h3 (fun k hk e => by have := (h3.lt k hk).1; omega)
      | 0, hR => exact hR.owns h3 (fun _ _ h => h)
      | 1, hR => exact hR.owns h3 (fun _ _ h => h)
      | 2, hR => exact hR.owns h3 (fun _ _ h => h)
      | i + 5, hR => exact hR.owns h3 (fun _ _ h => h)
    · match i, hR with
      | 3, hR => exact (h4 p hp).grown hR (.inl rfl)
      | 4, hR => exact (h4 p hp).keptG hgB hR
      | 0, hR => exact (h4 p hp).kept hR
      | 1, hR => exact (h4 p hp).kept hR
      | 2, hR => exact (h4 p hp).kept hR
      | i + 5, hR => exact (h4 p hp).kept hR
  | 3, ⟨ps', w3, w5, h1, h2, h3, h4, h5, h6, h7⟩ =>
    refine ⟨ps', w3, w5, h1, h2, h3, h4, h5, h6, ?_⟩
    match i, hR with
    | 3, hR => exact absurd rfl hne
    | 4, hR => exact h7.trans hR (fun _ _ h => h)
    | 0, hR => exact h7.trans hR (fun _ _ h => h.elim)
    | 1, hR => exact h7.trans hR (fun _ _ h => h.elim)
    | 2, hR => exact h7.trans hR (fun _ _ h => h.elim)
    | i + 5, hR => exact h7.trans hR (fun _ _ h => h.elim)
  | j + 4, _ => trivial
/-- What the store leaves. -/
def FL10 (g base B : Nat) (W : World) (ps : List Pc) (lx : List R) (w : World) : Prop := ∃ (v' : Value) (ps' : List Pc), ps'.map Prod.fst = lx ∧ Boxed w g 25 v' ∧ w.ownsRow base 39 7 v' (ps.length + lx.length) (Rich.cellsP ps ++ Rich.cellsP ps') ∧ (∀ p ∈ ps ++ ps', ElB B v' w p) ∧ KeepsOthers W w ∧ KpM (OwnB g) W w ∧ Kept (fun i => base ≤ i) W w
def CL10 (g base B : Nat) (W : World) (v0 : Value) (ps : List Pc) (lx : List R) (ls : Array Bool) (w : World) : Prop :=
  (ls.getD 4 false = false → Boxed w g 25 v0) ∧ (ls.getD 3 false = false → ls.getD 4 false = false → Kept (fun _ => False) W w) ∧ (ls.getD 4 false = true → FL10 g base B W ps lx w) ∧ Kept (fun b => b = g ∨ v0.ownBlock = some b) W w
theorem FL10.keep {g base B : Nat} {W : World} {ps : List Pc} {lx : List R} {w w' : World} (hg : g < W.heap.size) (h : FL10 g base B W ps lx w) (hk : Kept (fun _ => False) w w') : FL10 g base B W ps lx w' := by
  obtain ⟨v', ps', h0, h1, h2, h6, h3, h4, h5⟩ := h
  exact ⟨v', ps', h0, h1.kept hk.grownNone (by simp), hk.owns h2 (fun _ _ h => h), fun p hp => (h6 p hp).kept hk, h3.trans hk.others, h4.trans (KpM.of_kept (mut_own (n₀ := g + 1) (by omega)) (by have := h5.size; omega) hk), h5.trans hk (fun _ _ h => h.elim)⟩
theorem CL10.keep {g base B i : Nat} {W : World} {v0 : Value} {ps : List Pc} {lx : List R} {ls : Array Bool} {w w' : World} (h3 : i ≠ 3) (h4 : i ≠ 4) (hg : g < W.heap.size) (h : CL10 g base B W v0 ps lx ls w) (hk : Kept (fun _ => False) w w') : CL10 g base B W v0 ps lx (ls.setIfInBounds i true) w' := by
  obtain ⟨c1, c2, c3, c4⟩ := h
  unfold CL10
  rw [getD_set_ne false h3, getD_set_ne false h4]
  exact ⟨fun h => (c1 h).kept hk.grownNone (by simp), fun a b => (c2 a b).trans hk (fun _ _ h => h), fun h => (c3 h).keep hg hk, c4.trans hk (fun _ _ h => h.elim)⟩
theorem flat_le10 {α : Type} (f : α → List R) (h : ∀ p, (f p).length ≤ 2000) : ∀ l : List α, (l.flatMap f).length ≤ 2000 * l.length
  | [] => by simp
  | p :: l => by
    rw [List.flatMap_cons, List.length_append, List.length_cons]
    have := h p
    have := flat_le10 f h l
    omega
theorem nil_own10 {w : World} {base size n c : Nat} {e : TypeId} {ao : Option Addr} {xs : List Value} (h : w.ownsRow base e size (.slice ao n c) n xs) : ao = none → n = 0 ∧ c = 0 := fun hn => by
  rcases h.2 with ⟨h1, h2⟩ | ⟨g, cap, cur, h1, _⟩
  · injection h1 with _ h3 h4
    exact ⟨h2, h4⟩
  · rw [hn] at h1
    injection h1 with h1
    cases h1
theorem src_own10 {w : World} {base n c : Nat} {e : TypeId} {ao : Option Addr} {xs : List Value} (h : w.ownsRow base e 7 (.slice ao n c) n xs) : ∀ (j : Nat) u, xs[j]? = some u → ∃ ad, ao = some ad ∧ w.cell? (ad.add j) = some u := by
  intro j u hj
  rcases h.2 with ⟨h1, h2⟩ | ⟨g, cap, cur, h1, h2⟩
  · have h0 := h.1
    rw [h2, Nat.zero_mul] at h0
    rw [List.eq_nil_of_length_eq_zero h0] at hj
    cases hj
  · injection h1 with h1 h3 h4
    subst h1
    refine ⟨_, rfl, ?_⟩
    rw [Addr.add_lit, Nat.zero_add]
    exact (own_cell h hj).1
set_option maxRecDepth 100000 in
set_option maxHeartbeats 8000000 in
theorem pall10_core (nm : ByteArray) (n : Int) (v r : ByteArray) (a : Nat) (vd : ByteArray) (s4 s7 s12 : Value) (a5 : Option Addr) (n5 c5 : Nat) (a6 : Option Addr) (n6 c6 : Nat) (a8 : Option Addr) (n8 c8 : Nat) (a9 : Option Addr) (n9 c9 : Nat) (a10 : Option Addr) (n10 c10 : Nat) (a11 : Option Addr) (n11 c11 : Nat) (rq cf rc sp sg en : List R) (w : World)
    (hl : ∀ p ∈ (it10 rq cf rc sp sg en (.slice a5 n5 c5) (.slice a6 n6 c6) (.slice a8 n8 c8) (.slice a9 n9 c9) (.slice a10 n10 c10) (.slice a11 n11 c11)), p.1.length ≤ 2000 ∧ (∃ ao nn cp, p.2.1 = .slice ao nn cp) ∧ RisS w p.2.1 p.1 ∧ counts p.1 ≤ 2000 ∧ fitsL p.1) :
    Calls Tryz.prog 11 #[.agg #[.string nm, .int .i64 n, .string v, .string r, .int .u8 (a : Int), .string vd, s4, .slice a5 n5 c5, .slice a6 n6 c6, s7, .slice a8 n8 c8, .slice a9 n9 c9, .slice a10 n10 c10, .slice a11 n11 c11, s12]] w fun e w' => (∃ (u : Value) (ps : List Pc), e = .returned u ∧ ps.map Prod.fst = (rq ++ cf ++ rc ++ sp ++ sg ++ en) ∧ w'.ownsRow w.heap.size 39 7 u ps.length (Rich.cellsP ps) ∧ ∀ p ∈ ps, ElB (w.heap.size + 2) u w' p) ∧ Kept (fun _ => False) w w' := by
  obtain ⟨i0, hi, hz0, hz1, hz2⟩ := info_parts info_rich8
  have hmo : Tryz.prog.follows .mixedOrders = true := by kernel_rfl
  have HL := Lib.hid hl
  have hBA := (Box.made w 28 #[.string nm, .int .i64 n, .string v, .string r, .int .u8 (a : Int), .string vd, s4, .slice a5 n5 c5, .slice a6 n6 c6, s7, .slice a8 n8 c8, .slice a9 n9 c9, .slice a10 n10 c10, .slice a11 n11 c11, s12]).after_alloc (.cells #[.slice none 0 0] 25)
  have ax0 := hBA.cell 0
  have ax1 := hBA.cell 1
  have ax2 := hBA.cell 2
  have ax3 := hBA.cell 3
  have ax4 := hBA.cell 4
  have ax5 := hBA.cell 5
  have ax6 := hBA.cell 6
  have ax7 := hBA.cell 7
  have ax8 := hBA.cell 8
  have ax9 := hBA.cell 9
  have ax10 := hBA.cell 10
  have ax11 := hBA.cell 11
  have ax12 := hBA.cell 12
  have ax13 := hBA.cell 13
  have ax14 := hBA.cell 14
  have hkA : Kept (fun _ => False) w ((((w.alloc (.cells #[.string nm, .int .i64 n, .string v, .string r, .int .u8 (a : Int), .string vd, s4, .slice a5 n5 c5, .slice a6 n6 c6, s7, .slice a8 n8 c8, .slice a9 n9 c9, .slice a10 n10 c10, .slice a11 n11 c11, s12] 28)).alloc (.cells #[.slice none 0 0] 25)).alloc (.cells #[.string nm, .int .i64 n, .string v, .string r, .int .u8 (a : Int), .string vd, s4, .slice a5 n5 c5, .slice a6 n6 c6, s7, .slice a8 n8 c8, .slice a9 n9 c9, .slice a10 n10 c10, .slice a11 n11 c11, s12] 28)).alloc (.cells #[.slice a5 n5 c5, .int .u8 1, .slice a6 n6 c6, .int .u8 2, .slice a8 n8 c8, .int .u8 1, .slice a9 n9 c9, .int .u8 3, .slice a10 n10 c10, .int .u8 1, .slice a11 n11 c11, .int .u8 3] 108)) := ((((Kept.refl (fun _ => False) w).alloc (.cells #[.string nm, .int .i64 n, .string v, .string r, .int .u8 (a : Int), .string vd, s4, .slice a5 n5 c5, .slice a6 n6 c6, s7, .slice a8 n8 c8, .slice a9 n9 c9, .slice a10 n10 c10, .slice a11 n11 c11, s12] 28)).alloc (.cells #[.slice none 0 0] 25)).alloc (.cells #[.string nm, .int .i64 n, .string v, .string r, .int .u8 (a : Int), .string vd, s4, .slice a5 n5 c5, .slice a6 n6 c6, s7, .slice a8 n8 c8, .slice a9 n9 c9, .slice a10 n10 c10, .slice a11 n11 c11, s12] 28)).alloc (.cells #[.slice a5 n5 c5, .int .u8 1, .slice a6 n6 c6, .int .u8 2, .slice a8 n8 c8, .int .u8 1, .slice a9 n9 c9, .int .u8 3, .slice a10 n10 c10, .int .u8 1, .slice a11 n11 c11, .int .u8 3] 108)
  have hQ := (((Boxed.new (w.alloc (.cells #[.string nm, .int .i64 n, .string v, .string r, .int .u8 (a : Int), .string vd, s4, .slice a5 n5 c5, .slice a6 n6 c6, s7, .slice a8 n8 c8, .slice a9 n9 c9, .slice a10 n10 c10, .slice a11 n11 c11, s12] 28)) 25 (.slice none 0 0)).alloc (.cells #[.string nm, .int .i64 n, .string v, .string r, .int .u8 (a : Int), .string vd, s4, .slice a5 n5 c5, .slice a6 n6 c6, s7, .slice a8 n8 c8, .slice a9 n9 c9, .slice a10 n10 c10, .slice a11 n11 c11, s12] 28)).alloc (.cells #[.slice a5 n5 c5, .int .u8 1, .slice a6 n6 c6, .int .u8 2, .slice a8 n8 c8, .int .u8 1, .slice a9 n9 c9, .int .u8 3, .slice a10 n10 c10, .int .u8 1, .slice a11 n11 c11, .int .u8 3] 108))
  have hP := Box.made (((w.alloc (.cells #[.string nm, .int .i64 n, .string v, .string r, .int .u8 (a : Int), .string vd, s4, .slice a5 n5 c5, .slice a6 n6 c6, s7, .slice a8 n8 c8, .slice a9 n9 c9, .slice a10 n10 c10, .slice a11 n11 c11, s12] 28)).alloc (.cells #[.slice none 0 0] 25)).alloc (.cells #[.string nm, .int .i64 n, .string v, .string r, .int .u8 (a : Int), .string vd, s4, .slice a5 n5 c5, .slice a6 n6 c6, s7, .slice a8 n8 c8, .slice a9 n9 c9, .slice a10 n10 c10, .slice a11 n11 c11, s12] 28)) 108 #[.slice a5 n5 c5, .int .u8 1, .slice a6 n6 c6, .int .u8 2, .slice a8 n8 c8, .int .u8 1, .slice a9 n9 c9, .int .u8 3, .slice a10 n10 c10, .int .u8 1, .slice a11 n11 c11, .int .u8 3]
  have hsz : ((((w.alloc (.cells #[.string nm, .int .i64 n, .string v, .string r, .int .u8 (a : Int), .string vd, s4, .slice a5 n5 c5, .slice a6 n6 c6, s7, .slice a8 n8 c8, .slice a9 n9 c9, .slice a10 n10 c10, .slice a11 n11 c11, s12] 28)).alloc (.cells #[.slice none 0 0] 25)).alloc (.cells #[.string nm, .int .i64 n, .string v, .string r, .int .u8 (a : Int), .string vd, s4, .slice a5 n5 c5, .slice a6 n6 c6, s7, .slice a8 n8 c8, .slice a9 n9 c9, .slice a10 n10 c10, .slice a11 n11 c11, s12] 28)).alloc (.cells #[.slice a5 n5 c5, .int .u8 1, .slice a6 n6 c6, .int .u8 2, .slice a8 n8 c8, .int .u8 1, .slice a9 n9 c9, .int .u8 3, .slice a10 n10 c10, .int .u8 1, .slice a11 n11 c11, .int .u8 3] 108)).heap.size = w.heap.size + 4 := by simp [World.size_alloc]
  simp only [World.size_alloc] at hQ hP
  clear hBA hl
  refine (callsIn_wide (n := 5)).1 ?_
  refine callsIn_of_wp_marks Tryz.func11 rfl trivial ?_ rfl
  simp only [Tryz.ntmps11, List.size_toArray, List.length_cons, List.length_nil, Nat.reduceAdd, Nat.reduceSub, Array.replicate_succ, Array.replicate_zero, List.push_toArray, List.append_toArray, List.nil_append, List.cons_append]
  gi_wp2_with (refine ⟨trivial, ?_⟩; gi_at_call 44; refine (lists_in _ nm n v r a vd s4 s7 s12 a5 n5 c5 a6 n6 c6 a8 n8 c8 a9 n9 c9 a10 n10 c10 a11 n11 c11 _).mono ?_; rintro e w' ⟨rfl, rfl⟩)
  clear ax0 ax1 ax2 ax3 ax4 ax5 ax6 ax7 ax8 ax9 ax10 ax11 ax12 ax13 ax14
  generalize (((w.alloc (.cells #[.string nm, .int .i64 n, .string v, .string r, .int .u8 (a : Int), .string vd, s4, .slice a5 n5 c5, .slice a6 n6 c6, s7, .slice a8 n8 c8, .slice a9 n9 c9, .slice a10 n10 c10, .slice a11 n11 c11, s12] 28)).alloc (.cells #[.slice none 0 0] 25)).alloc (.cells #[.string nm, .int .i64 n, .string v, .string r, .int .u8 (a : Int), .string vd, s4, .slice a5 n5 c5, .slice a6 n6 c6, s7, .slice a8 n8 c8, .slice a9 n9 c9, .slice a10 n10 c10, .slice a11 n11 c11, s12] 28)).alloc (.cells #[.slice a5 n5 c5, .int .u8 1, .slice a6 n6 c6, .int .u8 2, .slice a8 n8 c8, .int .u8 1, .slice a9 n9 c9, .int .u8 3, .slice a10 n10 c10, .int .u8 1, .slice a11 n11 c11, .int .u8 3] 108) = wA at *
  refine wpIn_rangeFunc_ownH rfl (by omega) (gf := 81) (lb := #[.pointer (some ⟨w.heap.size + 1 + 1 + 1, 0, none⟩)]) rfl trivial (enters_of Tryz.func81 (by kernel_rfl) rfl)
    (lists_stops 4 (w.heap.size + 1 + 1 + 1) (OwnB (w.heap.size + 1)) rq cf rc sp sg en a5 n5 c5 a6 n6 c6 a8 n8 c8 a9 n9 c9 a10 n10 c10 a11 n11 c11 wA hP) KpM.trans (fun W l o o' hl h hc hw => KpM.putObj (w := wA) (mut_own (n₀ := w.heap.size + 2) (by omega)) (by omega) W l o o' hl h hc hw) (Below.refl _ _) (fun _ => rfl)
    (fun (pre : List (Itm (it10 rq cf rc sp sg en (.slice a5 n5 c5) (.slice a6 n6 c6) (.slice a8 n8 c8) (.slice a9 n9 c9) (.slice a10 n10 c10) (.slice a11 n11 c11)))) W => RowA (w.heap.size + 1) w.heap.size (w.heap.size + 2) ((pre.map Subtype.val).flatMap (fun p : It10 => p.1)) W ∧ Kept (fun _ => False) w W)
    (fun _ _ _ => False)
    (OwnFrom.and (rowA_own (fun (pre : List (Itm (it10 rq cf rc sp sg en (.slice a5 n5 c5) (.slice a6 n6 c6) (.slice a8 n8 c8) (.slice a9 n9 c9) (.slice a10 n10 c10) (.slice a11 n11 c11)))) => (pre.map Subtype.val).flatMap (fun p : It10 => p.1))) (kept_own (by omega)))
    (fun _ => out_false)
    ⟨⟨_, [], hQ, World.ownsRow_nil _ _ _ _, rfl, by simp⟩, hkA⟩
    (fun x a' W => a' = { tmps := #[.agg #[.string nm, .int .i64 n, .string v, .string r, .int .u8 (a : Int), .string vd, s4, .slice a5 n5 c5, .slice a6 n6 c6, s7, .slice a8 n8 c8, .slice a9 n9 c9, .slice a10 n10 c10, .slice a11 n11 c11, s12], .pointer (some ⟨w.heap.size, 0, none⟩), .slice none 0 0, .pointer (some ⟨w.heap.size + 1, 0, none⟩), x.1.2.1, .agg #[.string nm, .int .i64 n, .string v, .string r, .int .u8 (a : Int), .string vd, s4, .slice a5 n5 c5, .slice a6 n6 c6, s7, .slice a8 n8 c8, .slice a9 n9 c9, .slice a10 n10 c10, .slice a11 n11 c11, s12], .func (.func 81) #[] #[.pointer (some ⟨w.heap.size + 1 + 1 + 1, 0, none⟩)], x.1.2.1, .int .u8 (x.1.2.2 : Int), undef, undef, undef, undef, undef], defers := [] })
    (fun x a' _ X Y row hs hg hr => hs)
    ?assign ?body ?done ?stop
  case assign =>
    rintro l pre x W K ⟨hR, hkW⟩ hK
    have hx2 := (HL.out x.1 x.2).2.1
    obtain ⟨⟨lx, vx, wx⟩, hx⟩ := x
    obtain ⟨ao, nn, cp, hv⟩ := hx2
    dsimp only at hv
    subst hv
    simp only [enc10]
    gi_wp2
    exact hK _ _ ((KeepsOthers.refl _).from _) (KpM.refl _ W) ⟨hR, hkW⟩ rfl
  case body =>
    rintro l pre x a' W hl ⟨r, hr⟩ ⟨⟨v0, ps, hv, hrow, hps, hel⟩, hkW⟩ rfl hlt
    obtain ⟨hxl, hx2, hxs, hxc, hxf⟩ := HL.out x.1 x.2
    have hap : ((pre ++ [x]).map Subtype.val).flatMap (fun p : It10 => p.1) = (pre.map Subtype.val).flatMap (fun p : It10 => p.1) ++ x.1.1 := by simp
    have hpl : ps.length ≤ 12000 := by
      have e0 : ps.length = (ps.map Prod.fst).length := by rw [List.length_map]
      rw [e0, hps]
      have := flat_le10 (fun (p : Itm (it10 rq cf rc sp sg en (.slice a5 n5 c5) (.slice a6 n6 c6) (.slice a8 n8 c8) (.slice a9 n9 c9) (.slice a10 n10 c10) (.slice a11 n11 c11))) => p.1.1) (fun p => (HL.out p.1 p.2).1) pre
      rw [List.flatMap_map]
      have h6 : pre.length < 6 := hlt
      have e : List.flatMap (fun a => (fun p : It10 => p.1) (Subtype.val a)) pre = pre.flatMap (fun (p : Itm (it10 rq cf rc sp sg en (.slice a5 n5 c5) (.slice a6 n6 c6) (.slice a8 n8 c8) (.slice a9 n9 c9) (.slice a10 n10 c10) (.slice a11 n11 c11))) => p.1.1) := rfl
      rw [e]
      omega
    obtain ⟨⟨lx, vx, wx⟩, hx⟩ := x
    obtain ⟨ao, nn, cp, hvx⟩ := hx2
    dsimp only at hvx hxl hxs hxc hxf hap
    subst hvx
    have hsW := hkW.size
    have hlv := hv.lt
    have hvl : ∀ j, v0.ownBlock = some j → j < W.heap.size := fun j hj => (hrow.lt j hj).2
    have HKW := Lib.hid hkW
    have HAP := Lib.hid hap
    have HPS := Lib.hid hps
    have HV := Lib.hid hv
    have HROW := Lib.hid hrow
    have HEL := Lib.hid hel
    have HXS := Lib.hid (hxs.kept hkW)
    have HXC := Lib.hid (And.intro hxc hxf)
    have HBW := Lib.hid (show w.heap.size + 2 ≤ W.heap.size by omega)
    clear hap hps hel hxs hxc hxf hlt hkW
    gi_wp2
    refine wp_region_inv_round2 (SL10 (w.heap.size + 1) w.heap.size (w.heap.size + 2) W v0 (.slice ao nn cp) ps lx) (RL10 (w.heap.size + 1) v0)
      (CL10 (w.heap.size + 1) w.heap.size (w.heap.size + 2) W v0 ps lx)
      hmo (by kernel_rfl) (by kernel_rfl) ⟨fun _ => HV.out, fun _ _ => (Kept.refl _ W).drew, fun h => (by cases h), (Kept.refl _ W).drew⟩ (fun i j w1 w2 u hne hR h => SL10.step (by omega) hlv hvl i j w1 w2 u hne hR h) ⟨OpOK2.plain rfl ?_, OpOK2.plain rfl ?_, OpOK2.plain rfl ?_, OpOK2.plain rfl ?_, OpOK2.plain rfl ?_, trivial⟩ ?_
    · intro ls a wz hC hz hnew hwait hs hd K hK
      obtain ⟨hC1, hC2, hC3, hC4⟩ := hC
      have e4 : ls.getD 4 false = false := hwait 4 _ rfl (by kernel_rfl)
      have c0 := (hC1 e4).cell
      have t3 := hs 3 _ (by kernel_rfl) rfl
      have t3' := t3
      rw [Array.getD_eq_getD_getElem?] at t3'
      clear hs hd
      go_simp
      exact hK _ _ (Kept.refl _ wz) (CL10.keep (i := 0) (by decide) (by decide) hlv ⟨hC1, hC2, hC3, hC4⟩ (Kept.refl _ wz)) (fun _ => rfl)
    · intro ls a wz hC hz hnew hwait hs hd K hK
      have t4 := hs 4 _ (by kernel_rfl) rfl
      have t4' := t4
      rw [Array.getD_eq_getD_getElem?] at t4'
      clear hs hd
      go_simp
      exact hK _ _ (Kept.refl _ wz) (CL10.keep (i := 1) (by decide) (by decide) hlv hC (Kept.refl _ wz)) (fun _ => rfl)
    · intro ls a wz hC hz hnew hwait hs hd K hK
      have e4 : ls.getD 4 false = false := hwait 4 _ rfl (by kernel_rfl)
      have e3 : ls.getD 3 false = false := hwait 3 _ rfl (by kernel_rfl)
      have hkz := hC.2.1 e3 e4
      obtain ⟨u1, d1, s1⟩ := hd 1 10 (by kernel_rfl) (by kernel_rfl)
      change u1 = _ at s1
      subst s1
      have d1' := d1
      rw [Array.getD_eq_getD_getElem?] at d1'
      clear hs hd
      go_simp
      refine (copyListR_walk lx (.slice ao nn cp) wz (HXS.out.kept hkz) HXC.out.1 HXC.out.2).mono ?_
      rintro e wv ⟨⟨v5, rfl, _, _, _, ps5, h1, h2, h3⟩, hkv⟩
      exact hK _ _ hkv (CL10.keep (i := 2) (by decide) (by decide) hlv hC hkv) (fun _ => ⟨ps5, h1, ⟨_, hkz.size, h2⟩, fun p hp => ElB.of (h3 p hp) (Nat.le_trans HBW.out hkz.size) (fun g hg => Nat.lt_of_lt_of_le (hvl g hg) hkz.size)⟩)
    · intro ls a wz hC hz hnew hwait hs hd K hK
      have e4 : ls.getD 4 false = false := hwait 4 _ rfl (by kernel_rfl)
      have hkz := hC.2.1 hnew e4
      obtain ⟨u0, d0, s0⟩ := hd 0 9 (by kernel_rfl) (by kernel_rfl)
      change u0 = _ at s0
      subst s0
      obtain ⟨u2, d2, s2⟩ := hd 2 11 (by kernel_rfl) (by kernel_rfl)
      obtain ⟨ps5, h1, ⟨b5, h2, h3⟩, h4⟩ := s2
      obtain ⟨a5', c5', e5'⟩ := own_form h3
      subst e5'
      clear hs hd
      have hlx : ps5.length = lx.length := by rw [← h1, List.length_map]
      refine wp_append_src10 (.tmp 9) (.tmp 11) 25 rfl w.heap.size 39 i0 _ 7 96 Tryz.underlying25 hi hz0 hz1 hz2 rfl (by decide) _ _ _ d0 (hkz.owns HROW.out (fun _ _ h => h)) a5' lx.length c5' (Rich.cellsP ps5) d2 (nil_own10 h3) (by rw [Rich.cellsP_len, hlx]) (src_own10 h3) (Rich.cellsP_one _) (by unfold maxLen; omega) (by omega) (Nat.le_trans hsW hkz.size) ?_
      intro v' w5 hown hgrow hwhere
      exact hK _ _ hgrow ⟨fun _ => (hC.1 e4).kept hgrow ((hC.1 e4).not_row (by decide) (hkz.owns HROW.out (fun _ _ h => h))), fun h => by simp [hz] at h, fun h => (by rw [getD_set_ne false (by decide)] at h; rw [e4] at h; cases h), hC.2.2.2.grown hgrow (fun i hi => .inl (.inr hi))⟩ (fun _ => ⟨ps5, wz, w5, h1, hkz, hgrow, hwhere, hown, fun p hp => by
        rcases List.mem_append.1 hp with hp | hp
        · exact ((HEL.out p hp).kept hkz).grown hgrow hwhere
        · exact (h4 p hp).grown hgrow hwhere, Kept.refl _ w5⟩)
    · intro ls a wz hC hz hnew hwait hs hd K hK
      have t3 := hs 3 _ (by kernel_rfl) rfl
      have t3' := t3
      rw [Array.getD_eq_getD_getElem?] at t3'
      obtain ⟨u3, d3, s3⟩ := hd 3 12 (by kernel_rfl) (by kernel_rfl)
      obtain ⟨ps5, w3, w5, g0, g1, g2, g3, g4, g6, g5⟩ := s3
      obtain ⟨a9, c9, e9⟩ := own_form g4
      subst e9
      have d3' := d3
      rw [Array.getD_eq_getD_getElem?] at d3'
      have hbz := hC.1 hnew
      have c0 := hbz.cell
      have f0 := hbz.frozen
      clear hs hd
      go_simp
      have hfin := app_fin (by decide) HV.out HROW.out (by omega) g1 g2 g3 g4 g5 hbz
      obtain ⟨q1, q2, q3, q4, q5⟩ := hfin
      exact hK undef _ ((Kept.refl (fun b => b = w.heap.size + 1) wz).setCell (p := ⟨w.heap.size + 1, 0, none⟩) (.inl rfl) _) ⟨fun h => by simp [hz] at h, fun _ h => by simp [hz] at h, fun _ => ⟨_, ps5, g0, q1, q2, fun p hp => ((g6 p hp).keptG (g := w.heap.size + 1) (by omega) (g5.setCell (p := ⟨w.heap.size + 1, 0, none⟩) (.inl rfl) _)), q3, q4, q5⟩, hC.2.2.2.setCell (p := ⟨w.heap.size + 1, 0, none⟩) (.inl (.inl rfl)) _⟩ (fun h => by cases h)
    intro ls wz hall hC
    intro v1 h1 v2 h2 v3 h3 v4 h4
    obtain ⟨vf, ps5, f0, f1, f2, f3, f4, f5, f6⟩ := hC.2.2.1 (hall 4 (by decide))
    clear hall h1 h2 h3 h4
    have hlx : ps5.length = lx.length := by rw [← f0, List.length_map]
    simp only [EndsP]
    go_simp
    gi_wp2
    exact ⟨f4.from _, f5, ⟨vf, ps ++ ps5, f1, by rw [List.length_append, hlx, Rich.cellsP_app]; exact f2, by rw [List.map_append, HPS.out, f0, HAP.out], f3⟩, HKW.out.trans (f6.weaker (T := fun i => w.heap.size ≤ i) (fun _ _ h => h)) (fun i hi h => by omega)⟩
  case done =>
    rintro D ys W hD hys ⟨⟨v0, ps, hv, hrow, hps, hel⟩, hkW⟩ hK
    have hc := hv.cell
    gi_wp2
    refine ⟨by simp, .inl ⟨_, _, rfl, run_takeDeferred hK, ?_⟩⟩
    have hr' : ∀ r, some D = some r → ∃ o : Obj, W.heap[r]? = some o ∧ o.isCells = false := fun r e => by cases e; exact ⟨_, hK, rfl⟩
    exact ⟨_, results_tmp rfl _ _ _, ⟨v0, ps, rfl, by rw [hps, hys]; simp [it10], ownsRow_putObj hrow _ hK rfl, fun p hp => (hel p hp).own (grownBy_putObj' W D _) hr'⟩, hkW.grown (grownBy_putObj' W D _) (fun i hi => by cases hi; exact .inr (by omega))⟩
  case stop =>
    rintro D c pre W _ _ h _
    exact h.elim
/-- The program's All of a package that is not large. -/
theorem pall10_walk (p : Pk) (s : Sl) (w : World) (hP : PkIn w p s) (hS : PkSmall p) (hF : PkFits p) :
    Calls Tryz.prog 11 #[.agg (pkA p s)] w fun e w' => (∃ (u : Value) (ps : List Pc), e = .returned u ∧ ps.map Prod.fst = allR p ∧ w'.ownsRow w.heap.size 39 7 u ps.length (Rich.cellsP ps) ∧ ∀ p ∈ ps, ElB (w.heap.size + 2) u w' p) ∧ Kept (fun _ => False) w w' := by
  obtain ⟨s4, s5, s6, s7, s8, s9, s10, s11, s12⟩ := s
  have h5 := hP.rq
  obtain ⟨a5, c5, e5, _⟩ := hP.rq
  have h6 := hP.cf
  obtain ⟨a6, c6, e6, _⟩ := hP.cf
  have h8 := hP.rc
  obtain ⟨a8, c8, e8, _⟩ := hP.rc
  have h9 := hP.sp
  obtain ⟨a9, c9, e9, _⟩ := hP.sp
  have h10 := hP.sg
  obtain ⟨a10, c10, e10, _⟩ := hP.sg
  have h11 := hP.en
  obtain ⟨a11, c11, e11, _⟩ := hP.en
  dsimp only at e5 h5 e6 h6 e8 h8 e9 h9 e10 h10 e11 h11
  subst e5; subst e6; subst e8; subst e9; subst e10; subst e11
  refine pall10_core p.nm p.n p.v p.r p.a p.vd s4 s7 s12 a5 _ c5 a6 _ c6 a8 _ c8 a9 _ c9 a10 _ c10 a11 _ c11 p.rq p.cf p.rc p.sp p.sg p.en w fun q hq => ?_
  simp only [it10, List.mem_cons, List.not_mem_nil, or_false] at hq
  rcases hq with rfl | rfl | rfl | rfl | rfl | rfl
  · exact ⟨Nat.le_trans hS.rq.2.1 (by decide), ⟨_, _, _, rfl⟩, h5, hS.rq.1, hF.rq.2⟩
  · exact ⟨Nat.le_trans hS.cf.2.1 (by decide), ⟨_, _, _, rfl⟩, h6, hS.cf.1, hF.cf.2⟩
  · exact ⟨Nat.le_trans hS.rc.2.1 (by decide), ⟨_, _, _, rfl⟩, h8, hS.rc.1, hF.rc.2⟩
  · exact ⟨Nat.le_trans hS.sp.2.1 (by decide), ⟨_, _, _, rfl⟩, h9, hS.sp.1, hF.sp.2⟩
  · exact ⟨Nat.le_trans hS.sg.2.1 (by decide), ⟨_, _, _, rfl⟩, h10, hS.sg.1, hF.sg.2⟩
  · exact ⟨Nat.le_trans hS.en.2.1 (by decide), ⟨_, _, _, rfl⟩, h11, hS.en.1, hF.en.2⟩
end Go.Proofs.YtlpalepkomkngaaGreatDoor

namespace Go.Proofs.YtlpalepkomkngaaGreatDoor
open Go.RowKit Ver Evr Span Dep Rich

/-- Only blocks from lo up to hi were written, there only cells at multiples of seven; what could be written still can. -/
structure Mk (lo hi : Nat) (w w' : World) : Prop where
  kept : Kept (fun b => lo ≤ b ∧ b < hi) w w'
  cell : ∀ (b o : Nat) (v : Value), b < w.heap.size → w.cell? ⟨b, o, none⟩ = some v → o % 7 ≠ 0 → w'.cell? ⟨b, o, none⟩ = some v
  some : ∀ (b o : Nat) (v : Value), b < w.heap.size → w.cell? ⟨b, o, none⟩ = some v → ∃ v', w'.cell? ⟨b, o, none⟩ = some v'
  free : ∀ (b o : Nat), b < w.heap.size → w.frozen? ⟨b, o, none⟩ = false → w'.frozen? ⟨b, o, none⟩ = false
theorem Mk.refl (lo hi : Nat) (w : World) : Mk lo hi w w := ⟨Kept.refl _ w, fun _ _ _ _ h _ => h, fun _ _ v _ h => ⟨v, h⟩, fun _ _ _ h => h⟩
theorem Mk.set {lo hi : Nat} {w w' : World} (h : Mk lo hi w w') {b o : Nat} {u v : Value} (h1 : lo ≤ b) (h2 : b < hi) (h3 : o % 7 = 0) (h4 : w'.cell? ⟨b, o, none⟩ = Option.some u) : Mk lo hi w (w'.setCell ⟨b, o, none⟩ v) := by
  refine ⟨h.kept.setCell (.inl ⟨h1, h2⟩) v, fun b' o' v' hb hc ho => ?_, fun b' o' v' hb hc => ?_, fun b' o' hb hf => ?_⟩
  · rw [World.cell?_setCell_other w' ⟨b, o, none⟩ ⟨b', o', none⟩ v (fun e => by injection e with _ e2; omega)]
    exact h.cell b' o' v' hb hc ho
  · obtain ⟨v2, hv2⟩ := h.some b' o' v' hb hc
    by_cases e : (⟨b, o, none⟩ : Addr) = ⟨b', o', none⟩
    · rw [← e]
      exact ⟨v, World.cell?_setCell_same w' ⟨b, o, none⟩ v h4⟩
    · exact ⟨v2, by rw [World.cell?_setCell_other w' ⟨b, o, none⟩ ⟨b', o', none⟩ v e]; exact hv2⟩
  · rw [World.frozen?_setCell]
    exact h.free b' o' hb hf
/-- The Kind of the ith of a row of one's own can be written, and its Args are still where they were. -/
theorem Mk.row {lo hi : Nat} {w w' : World} (h : Mk lo hi w w') {b o : Nat} {u v : Value} (hb : b < w.heap.size) (h0 : w.cell? ⟨b, o, none⟩ = Option.some u) (h6 : w.cell? ⟨b, o + 6, none⟩ = Option.some v) (ho : o % 7 = 0) : (∃ x, w'.cell? ⟨b, o, none⟩ = Option.some x) ∧ w'.cell? ⟨b, o + 6, none⟩ = Option.some v :=
  ⟨h.some b o u hb h0, h.cell b (o + 6) v hb h6 (by omega)⟩
theorem own_less10 {w : World} {a b n : Nat} {e : TypeId} {v : Value} {xs : List Value} (h : w.ownsRow b e 7 v n xs) (hb : a ≤ b) : w.ownsRow a e 7 v n xs := by
  refine ⟨h.1, ?_⟩
  rcases h.2 with h2 | ⟨g, cap, cur, h1, h2, h3⟩
  · exact .inl h2
  · exact .inr ⟨g, cap, cur, h1, Nat.le_trans hb h2, h3⟩
/-- Rich rows of one's own in the blocks from lo up to hi, the Args of each too. -/
def RowK (lo hi : Nat) (w : World) (v : Value) (l : List R) : Prop :=
  ∃ ps : List Pc, ps.map Prod.fst = l ∧ w.ownsRow lo 39 7 v l.length (Rich.cellsP ps) ∧ (∀ g, v.ownBlock = some g → g < hi) ∧ ∀ p ∈ ps, ∃ ps5 : List Pc, w.ownsRow lo 39 7 (.slice p.2.1 p.1.args.length p.2.2) p.1.args.length (Rich.cellsP ps5) ∧ ∀ g, (Value.slice p.2.1 p.1.args.length p.2.2).ownBlock = some g → g < hi
theorem RowK.kept {lo hi : Nat} {w w' : World} {v : Value} {l : List R} (h : RowK lo hi w v l) (hk : Kept (fun _ => False) w w') : RowK lo hi w' v l := by
  obtain ⟨ps, h1, h2, h3, h4⟩ := h
  refine ⟨ps, h1, hk.owns h2 (fun _ _ h => h), h3, fun p hp => ?_⟩
  obtain ⟨ps5, h5, h6⟩ := h4 p hp
  exact ⟨ps5, hk.owns h5 (fun _ _ h => h), h6⟩
theorem RowK.of_el {lo B hi : Nat} {w : World} {v : Value} {ps : List Pc} {l : List R} (h : w.ownsRow lo 39 7 v ps.length (Rich.cellsP ps)) (hl : ps.map Prod.fst = l) (he : ∀ p ∈ ps, ElB B v w p) (hB : lo ≤ B) (hh : w.heap.size ≤ hi) : RowK lo hi w v l := by
  have hn : ps.length = l.length := by rw [← hl]; simp
  rw [hn] at h
  refine ⟨ps, hl, h, fun g e => Nat.lt_of_lt_of_le (h.lt g e).2 hh, fun p hp => ?_⟩
  obtain ⟨_, b5, ps5, h1, h2, _⟩ := he p hp
  exact ⟨ps5, own_less10 h2 (Nat.le_trans hB h1), fun g e => Nat.lt_of_lt_of_le (h2.lt g e).2 hh⟩
theorem RowK.of_own {lo B hi : Nat} {w : World} {v : Value} {l : List R} (h : RisO B w v l) (hB : lo ≤ B) (hh : w.heap.size ≤ hi) : RowK lo hi w v l := by
  obtain ⟨b0, ps, h1, h2, h3, h4⟩ := h
  refine ⟨ps, h2, own_less10 h3 (Nat.le_trans hB h1), fun g e => Nat.lt_of_lt_of_le (h3.lt g e).2 hh, fun p hp => ?_⟩
  obtain ⟨_, b5, ps5, h5, h6, _⟩ := ElB.of (B := lo) (v := .slice none 0 0) (h4 p hp) (Nat.le_trans hB h1) (fun g e => by cases e)
  exact ⟨ps5, own_less10 h6 h5, fun g e => Nat.lt_of_lt_of_le (h6.lt g e).2 hh⟩
theorem own_free10 {w : World} {base n g c : Nat} {e : TypeId} {xs : List Value} (h : w.ownsRow base e 7 (.slice (some ⟨g, 0, none⟩) n c) n xs) (j : Nat) : base ≤ g ∧ w.frozen? ⟨g, j, none⟩ = false := by
  obtain ⟨_, h | ⟨g', cap, cur, e1, e2, e3, _⟩⟩ := h
  · exact absurd h.1 (by simp)
  · injection e1 with e1 _ _
    injection e1 with e1
    injection e1 with e1
    subst e1
    exact ⟨e2, by simp [World.frozen?, e3]⟩
theorem RowK.at {lo hi : Nat} {w : World} {v : Value} {l : List R} (h : RowK lo hi w v l) {i : Nat} {x : R} (hx : l[i]? = some x) : ∃ (g c : Nat) (ai : Option Addr) (ac : Nat) (u : Value), v = .slice (some ⟨g, 0, none⟩) l.length c ∧ lo ≤ g ∧ g < hi ∧ g < w.heap.size ∧ w.cell? ⟨g, i * 7, none⟩ = some u ∧ w.cell? ⟨g, i * 7 + 6, none⟩ = some (.slice ai x.args.length ac) ∧ (∀ j, w.frozen? ⟨g, j, none⟩ = false) ∧ ∀ k, k < x.args.length → ∃ (g2 : Nat) (u2 : Value), ai = some ⟨g2, 0, none⟩ ∧ lo ≤ g2 ∧ g2 < hi ∧ g2 < w.heap.size ∧ w.cell? ⟨g2, k * 7, none⟩ = some u2 ∧ ∀ j, w.frozen? ⟨g2, j, none⟩ = false := by
  obtain ⟨ps, hl, ho, hb, hp⟩ := h
  rw [← hl, List.getElem?_map] at hx
  obtain ⟨p, hpi, rfl⟩ := Option.map_eq_some_iff.1 hx
  obtain ⟨a, c, rfl⟩ := own_form ho
  have hlt := (List.getElem?_eq_some_iff.1 hpi).1
  rcases ho.2 with ⟨_, h0⟩ | ⟨g, cap, cur, e1, _⟩
  · rw [← hl] at h0; simp at h0; subst h0; simp at hlt
  · injection e1 with e1 e2 e3
    subst e1
    have q0 := own_cell ho (Rich.cellsP_at ps i p hpi 0 _ rfl)
    have q6 := own_cell ho (Rich.cellsP_at ps i p hpi 6 _ rfl)
    have qf := own_free10 ho
    refine ⟨g, c, p.2.1, p.2.2, _, rfl, (qf 0).1, hb g rfl, q0.2, q0.1, q6.1, fun j => (qf j).2, fun k hk => ?_⟩
    obtain ⟨ps5, h5, hb5⟩ := hp p (List.mem_of_getElem? hpi)
    have hps : ps5.length = p.1.args.length := by
      have := h5.1
      rw [Rich.cellsP_len] at this
      omega
    obtain ⟨d, hd⟩ : ∃ d, ps5[k]? = some d := ⟨_, List.getElem?_eq_getElem (by omega)⟩
    rcases h5.2 with ⟨_, h0⟩ | ⟨g2, cap2, cur2, e1, _⟩
    · omega
    · injection e1 with e1 e2 e3
      rw [e1] at h5 hb5
      have r0 := own_cell h5 (Rich.cellsP_at ps5 k d hd 0 _ rfl)
      have rf := own_free10 h5
      exact ⟨g2, _, e1, (rf 0).1, hb5 g2 rfl, r0.2, r0.1, fun j => (rf j).2⟩
end Go.Proofs.YtlpalepkomkngaaGreatDoor
