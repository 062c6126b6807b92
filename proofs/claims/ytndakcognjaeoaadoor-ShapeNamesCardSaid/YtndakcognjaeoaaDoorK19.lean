/-
  The program's Atoms (layer 9): the Deps of the Atoms, in new memory. The walk over the document's Same (layer 8). The walk over the document's Deps (layer 9): whether two lists of plain dependencies are the same. Conditions: as each theorem states.
-/
import Derived.Test.YtndakcognjaeoaaDoorK05
import Derived.Test.YtndakcognjaeoaaDoorK17
import Derived.Test.YtndakcognjaeoaaDoorK18
import Derived.Test.YtndakcognjaeoaaDoorK14
import Derived.Maps.OwnIn
import Derived.Test.YtndakcognjaeoaaDoorK04
import Derived.Test.YtndakcognjaeoaaDoorRows
import Derived.Handy
import Derived.Lib.Hide
import Derived.LoopN
import Derived.Deep.QuietTactic
import Derived.WalkKit
import Derived.Deep.RegionWith
import Derived.BigRegion
namespace Go.Proofs.YtndakcognjaeoaaDoor
open Go.RowKit Ver Evr Span Dep Rich Go.Shelf
attribute [local go_sem] Oper.semAt_some

theorem atoms_small : ∀ (x : R), fitsX x → ∀ d ∈ atomsS x, smallD d := by
  refine R.ind fun k d l ih hf => ?_
  rw [fitsX] at hf
  rw [atomsS]
  intro e he
  rcases List.mem_append.1 he with he | he
  · by_cases hk : k = 1
    · rw [if_pos hk] at he
      have : e = d := by simpa using he
      subst this
      exact ⟨by omega, by omega, by omega⟩
    · rw [if_neg hk] at he; simp at he
  · have key : ∀ m : List R, (∀ y ∈ m, y ∈ l) → fitsL m → e ∈ atomsSL m → smallD e := by
      intro m
      induction m with
      | nil => intro _ _ h; rw [atomsSL] at h; simp at h
      | cons y m ihm =>
        intro hm hfm h
        rw [fitsL] at hfm
        rw [atomsSL] at h
        rcases List.mem_append.1 h with h | h
        · exact ih y (hm y (by simp)) hfm.1 e h
        · exact ihm (fun z hz => hm z (by simp [hz])) hfm.2 h
    exact key l (fun _ h => h) hf.2.2.2.2 he
theorem items_small (x : R) (hf : fitsX x) (al : Bool) : ∀ p ∈ items al x, p.1.kind = 1 → smallD p.1.dep := by
  intro p hp hk
  refine atoms_small x hf p.1.dep ?_
  rw [← items_atoms x al]
  refine List.mem_flatMap.2 ⟨p, hp, ?_⟩
  unfold atomP
  rw [if_pos hk]
  simp
def atomT (p : RT × Bool) : List D := if p.1.kind = 1 then [p.1.dep] else []
theorem atomsT_er (t : RT) : (itemsT false t).flatMap atomT = atomsS t.er := by
  rw [← items_atoms t.er false, ← itemsT_er, List.flatMap_map]
  congr 1
  funext p
  unfold atomT atomP
  rw [er_kind, er_dep]
theorem atomsS_len : ∀ x : R, (atomsS x).length ≤ count x := by
  intro x
  have h1 := items_atoms x false
  have h2 := items_len x false
  rw [← h1, ← h2]
  have : ∀ l : List (R × Bool), (l.flatMap atomP).length ≤ l.length := by
    intro l
    induction l with
    | nil => simp
    | cons p l ih =>
      rw [List.flatMap_cons, List.length_append, List.length_cons]
      have : (atomP p).length ≤ 1 := by unfold atomP; split <;> simp
      omega
  exact this _
theorem atomT_le (l : List (RT × Bool)) : (l.flatMap atomT).length ≤ l.length := by
  induction l with
  | nil => simp
  | cons p l ih =>
    rw [List.flatMap_cons, List.length_append, List.length_cons]
    have : (atomT p).length ≤ 1 := by unfold atomT; split <;> simp
    omega
/-- What the store leaves. -/
def Fin9 (B n base : Nat) (W : World) (d : D) (xs : List Value) (w : World) : Prop := ∃ v', Boxed w B 39 v' ∧ w.ownsRow base 26 5 v' (n + 1) (xs ++ cellsD9 [d]) ∧ KeepsOthers W w ∧ KpM (OwnB B) W w ∧ Kept (fun i => base ≤ i) W w
/-- What holds of the world, by what has come up. -/
def CA (B n base : Nat) (W : World) (V0 : Value) (d : D) (xs : List Value) (ls : Array Bool) (w : World) : Prop :=
  (ls.getD 6 false = false → Boxed w B 39 V0) ∧ (ls.getD 5 false = false → ls.getD 6 false = false → Kept (fun _ => False) W w) ∧ (ls.getD 6 false = true → Fin9 B n base W d xs w) ∧ Kept (fun b => b = B ∨ V0.ownBlock = some b) W w
theorem Fin9.keep {B n base : Nat} {W : World} {d : D} {xs : List Value} {w w' : World} (hBW : B < W.heap.size) (h : Fin9 B n base W d xs w) (hk : Kept (fun _ => False) w w') : Fin9 B n base W d xs w' := by
  obtain ⟨v', h1, h2, h3, h4, h5⟩ := h
  exact ⟨v', h1.kept hk.grownNone (by simp), hk.owns h2 (fun _ _ h => h), h3.trans hk.others, h4.trans (KpM.of_kept (mut_own (n₀ := B + 1) (by omega)) (by have := h5.size; omega) hk), h5.trans hk (fun _ _ h => h.elim)⟩
theorem CA.keep {B n base i : Nat} {W : World} {V0 : Value} {d : D} {xs : List Value} {ls : Array Bool} {w w' : World} (h5 : i ≠ 5) (h6 : i ≠ 6) (hBW : B < W.heap.size) (h : CA B n base W V0 d xs ls w) (hk : Kept (fun _ => False) w w') : CA B n base W V0 d xs (ls.setIfInBounds i true) w' := by
  obtain ⟨c1, c2, c3, c4⟩ := h
  unfold CA
  rw [getD_set_ne false h5, getD_set_ne false h6]
  exact ⟨fun h => (c1 h).kept hk.grownNone (by simp), fun a b => (c2 a b).trans hk (fun _ _ h => h), fun h => (c3 h).keep hBW hk, c4.trans hk (fun _ _ h => h.elim)⟩
theorem ownB_nil {W : World} {B i : Nat} {t : TypeId} (h : Boxed W B t (.slice none 0 0)) (hi : OwnB B W i) (hne : i ≠ B) : False := by
  rcases hi with hi | ⟨v, h1, h2⟩
  · exact hne hi
  · rw [h.cell] at h1
    cases h1
    simp [Value.ownBlock] at h2
theorem one_dep9 {w : World} {g : Nat} {e : TypeId} {d : D} (h : Box w g e (depA d)) : ∀ (j : Nat) u, (cellsD9 [d])[j]? = some u → w.cell? ((⟨g, 0, none⟩ : Addr).add j) = some u := by
  intro j u hj
  rw [show ((⟨g, 0, none⟩ : Addr).add j) = ⟨g, j, none⟩ by simp [Addr.add]; exact fun h => h.symm, h.cell]
  have h2 : (cellsD9 [d]) = (depA d).toList := by show (depA d).toList ++ [] = _; rw [List.append_nil]
  rw [h2, Array.getElem?_toList] at hj
  exact hj
theorem wp_append_src9 {P : Program} {w : World} {o : Oper} {a : Act} {K : Act → World → Prop} {Q : Exit → Act → World → Prop} (s x : Operand) (t : TypeId)
    (ho : o.op = .call { callee := .builtin .append, args := #[s, x], argTypes := #[t, t] })
    (base : Nat) (e : TypeId) (i : TypeInfo) (z : Value) (size bytes : Nat) (ht : P.underlying t = some (.slice e)) (hi : P.info? e = some i) (hz : i.zero = some z)
    (hsize : i.size = size) (hby : i.bytes = bytes) (hzs : z.cells.size = size) (hsz : 0 < size)
    (v : Value) (n : Nat) (xs : List Value) (hs : a.eval s = v) (hown : w.ownsRow base e size v n xs)
    (ao : Option Addr) (m c : Nat) (news : List Value) (hx : a.eval x = .slice ao m c) (hnil : ao = none → m = 0 ∧ c = 0) (hl : news.length = m * size) (hnews : ∀ j u, news[j]? = some u → ∃ ad, ao = some ad ∧ w.cell? (ad.add j) = some u) (h1 : ∀ u ∈ news, u.oneCell' = true)
    (h63 : n + m ≤ maxLen) (hbytes : (n + m) * bytes ≤ 140737488355328) (hbase : base ≤ w.heap.size)
    (h : ∀ v' w', w'.ownsRow base e size v' (n + m) (xs ++ news) → w.grownBy w' v.ownBlock → (v'.ownBlock = v.ownBlock ∨ v'.ownBlock = some w.heap.size) → K (a.put o.dst v') w') : o.wp P a w K Q := by
  obtain ⟨v', w', hr, h2, h3, h4⟩ := run_append_src (P := P) (w := w) base t o.type e i z size bytes ht hi hz hsize hby hzs hsz v n xs hown ao m c news hnil hl hnews h1 h63 hbytes hbase
  unfold Oper.wp execOp
  simp only [ho, resolve, invoke, builtin, Sem.run_bind, Sem.run_pure, Result.andThen_ok, List.map_toArray, List.map_cons, List.map_nil, hs, hx, hr]
  exact h v' w' h2 h3 h4
/-- What the slots hold of the region that appends one. -/
def SA (B n : Nat) (base Bx : Nat) (W : World) (V0 : Value) (d : D) (xs : List Value) : Nat → World → Value → Prop
  | 0, _, v => v = V0
  | 1, _, v => v = .pointer (some ⟨Bx, 1, none⟩)
  | 2, _, v => v = .agg (depA d)
  | 3, _, v => v = .agg (depA d)
  | 4, w, v => ∃ g, W.heap.size ≤ g ∧ v = .slice (some ⟨g, 0, none⟩) 1 1 ∧ Box w g 26 (depA d)
  | 5, w, v => ∃ w3 w5, Kept (fun _ => False) W w3 ∧ w3.grownBy w5 V0.ownBlock ∧ (v.ownBlock = V0.ownBlock ∨ v.ownBlock = some w3.heap.size) ∧ w5.ownsRow base 26 5 v (n + 1) (xs ++ cellsD9 [d]) ∧ Kept (fun b => b = B) w5 w
  | _, _, _ => True
def RA (B : Nat) (V0 : Value) : Nat → World → World → Prop
  | 5, w, w' => w.grownBy w' V0.ownBlock
  | 6, w, w' => Kept (fun b => b = B) w w'
  | _, w, w' => Kept (fun _ => False) w w'
theorem SA.step {B n base Bx : Nat} {W : World} {V0 : Value} {d : D} {xs : List Value} (hB : B < W.heap.size) (hV : ∀ j, V0.ownBlock = some j → j < W.heap.size) (i j : Nat) (w w' : World) (v : Value) (hne : j ≠ i) (hR : RA B V0 i w w') (h : SA B n base Bx W V0 d xs j w v) : SA B n base Bx W V0 d xs j w' v := by
  match j, h with
  | 0, h => exact h
  | 1, h => exact h
  | 2, h => exact h
  | 3, h => exact h
  | 4, ⟨g, h1, h2, h3⟩ =>
    refine ⟨g, h1, h2, ?_⟩
    match i, hR with
    | 5, hR => exact (hR.block g h3.lt (fun e => by have := hV g e.symm; omega)).trans h3
    | 6, hR => exact hR.box h3 (fun e => by omega)
    | 0, hR => exact hR.box h3 (fun h => h)
    | 1, hR => exact hR.box h3 (fun h => h)
    | 2, hR => exact hR.box h3 (fun h => h)
    | 3, hR => exact hR.box h3 (fun h => h)
    | 4, hR => exact hR.box h3 (fun h => h)
    | i + 7, hR => exact hR.box h3 (fun h => h)
  | 5, ⟨w3, w5, h1, h2, h3, h4, h5⟩ =>
    refine ⟨w3, w5, h1, h2, h3, h4, ?_⟩
    match i, hR with
    | 5, hR => exact absurd rfl hne
    | 6, hR => exact h5.trans hR (fun _ _ h => h)
    | 0, hR => exact h5.trans hR (fun _ _ h => h.elim)
    | 1, hR => exact h5.trans hR (fun _ _ h => h.elim)
    | 2, hR => exact h5.trans hR (fun _ _ h => h.elim)
    | 3, hR => exact h5.trans hR (fun _ _ h => h.elim)
    | 4, hR => exact h5.trans hR (fun _ _ h => h.elim)
    | i + 7, hR => exact h5.trans hR (fun _ _ h => h.elim)
  | j + 6, _ => trivial
set_option maxRecDepth 100000 in
set_option maxHeartbeats 4000000 in
theorem atoms_t (t : RT) (w : World) (hS : RTS w.heap.size w t) (hc : count t.er ≤ 1000000) (hfit : fitsX t.er) :
    Calls Tryd.prog 21 #[t.val] w fun e w' => (∃ v, e = .returned v ∧ w'.ownsRow w.heap.size 26 5 v (atomsS t.er).length (cellsD9 (atomsS t.er))) ∧ Kept (fun _ => False) w w' := by
  obtain ⟨i0, hi, hz0, hz1, hz2⟩ := info_get9 info_dep9
  have HSM := Lib.hid (items_small t.er hfit false)
  have HAL := Lib.hid (atomsS_len t.er)
  have hmo : Tryd.prog.follows .mixedOrders = true := by kernel_rfl
  clear hfit
  have HF := Lib.hid (few_of_count t hc)
  have HL := Lib.hid (itemsT_len t)
  have HC := Lib.hid hc
  have hBA := (Box.after_alloc (Box.made w 29 t.arr) (.cells #[.slice none 0 0] 39))
  have a0 := hBA.cell 0
  have a1 := hBA.cell 1
  have a2 := hBA.cell 2
  have a3 := hBA.cell 3
  have a4 := hBA.cell 4
  have a5 := hBA.cell 5
  have a6 := hBA.cell 6
  have hkA : Kept (fun _ => False) w (((w.alloc (.cells t.arr 29)).alloc (.cells #[.slice none 0 0] 39)).alloc (.cells t.arr 29)) := ((((Kept.refl (fun _ => False) w).alloc (.cells t.arr 29)).alloc (.cells #[.slice none 0 0] 39)).alloc (.cells t.arr 29))
  have hN := ((Boxed.new (w.alloc (.cells t.arr 29)) 39 (.slice none 0 0)).alloc (.cells t.arr 29))
  have hP := Box.made ((w.alloc (.cells t.arr 29)).alloc (.cells #[.slice none 0 0] 39)) 29 t.arr
  have hSA := rts_at hS hkA
  have hsz : (((w.alloc (.cells t.arr 29)).alloc (.cells #[.slice none 0 0] 39)).alloc (.cells t.arr 29)).heap.size = w.heap.size + 3 := by simp [World.size_alloc]
  simp only [World.size_alloc] at hN hP
  clear hBA hS hc
  refine (callsIn_wide (n := 5)).1 ?_
  refine callsIn_of_wp_marks Tryd.func21 rfl trivial ?_ rfl
  simp only [Tryd.ntmps21, List.size_toArray, List.length_cons, List.length_nil, Nat.reduceAdd, Nat.reduceSub, Array.replicate_succ, Array.replicate_zero, List.push_toArray, List.append_toArray, List.nil_append, List.cons_append]
  gi_wp2_with (refine ⟨trivial, ?_⟩; gi_at_call 44; refine (parts_in _ t _).mono ?_; rintro e w' ⟨rfl, rfl⟩)
  generalize (((w.alloc (.cells t.arr 29)).alloc (.cells #[.slice none 0 0] 39)).alloc (.cells t.arr 29)) = wA at *
  refine wpIn_rangeFunc_ownH rfl (by omega) (gf := 68) (lb := #[.pointer (some ⟨w.heap.size + 1 + 1, 0, none⟩)]) rfl trivial (enters_of Tryd.func68 (by kernel_rfl) rfl)
    (parts_stops9 4 (w.heap.size + 1 + 1) w.heap.size (w.heap.size + 2) (OwnB (w.heap.size + 1)) (mut_own (n₀ := w.heap.size + 2) (by omega)) t HF.out wA hP hSA (fun b hb h => ownB_nil hN h (by omega)) (by omega) (by omega) (fun i h => Classical.byContradiction fun hn => ownB_nil hN h (by omega))) KpM.trans (fun W l o o' hl h hc hw => KpM.putObj (w := wA)  (mut_own (n₀ := w.heap.size + 2) (by omega)) (by omega) W l o o' hl h hc hw) (Below.refl _ _) (fun _ => rfl)
    (fun (pre : List (Part t)) W => (∃ v, Boxed W (w.heap.size + 1) 39 v ∧ W.ownsRow w.heap.size 26 5 v ((pre.map Subtype.val).flatMap atomT).length (cellsD9 ((pre.map Subtype.val).flatMap atomT)) ∧ True) ∧ Kept (fun _ => False) w W)
    (fun _ _ _ => False)
    (OwnFrom.and (Own.from (holdsRow_own w.heap.size (w.heap.size + 1) 39 26 5 (fun (pre : List (Part t)) => ((pre.map Subtype.val).flatMap atomT).length) (fun (pre : List (Part t)) => cellsD9 ((pre.map Subtype.val).flatMap atomT)) (fun _ _ => True)) _) (kept_own (by omega)))
    (fun _ => out_false)
    ⟨⟨_, hN, World.ownsRow_nil _ _ _ _, trivial⟩, hkA⟩
    (fun x a' W => ∃ Bx, w.heap.size + 1 < Bx ∧ Box W Bx 29 x.1.1.arr ∧ a' = { tmps := #[t.val, .pointer (some ⟨w.heap.size, 0, none⟩), .slice none 0 0, .pointer (some ⟨w.heap.size + 1, 0, none⟩), .pointer (some ⟨Bx, 0, none⟩), .agg #[.int .u8 (t.kind : Int), .string ⟨t.dep.name.toArray⟩, .int .u8 (t.dep.op : Int), .int .i64 t.dep.evr.epoch, .string ⟨t.dep.evr.ver.toArray⟩, .string ⟨t.dep.evr.rel.toArray⟩, .slice t.ao t.args.length t.cp], .func (.func 68) #[] #[.pointer (some ⟨w.heap.size + 1 + 1, 0, none⟩)], x.1.1.val, .bool x.1.2, undef, undef, undef, undef, undef, undef, undef, undef, undef, undef], defers := [] })
    (fun x a' _ X Y row hs hg hr => by obtain ⟨Bx, h1, h2, h3⟩ := hs; exact ⟨Bx, h1, box_own _ Bx 29 (fun (_ : Unit) => x.1.1.arr) () X Y row h2 hg hr, h3⟩)
    ?assign ?body ?done ?stop
  case assign =>
    rintro l pre x W K ⟨⟨v, hv, hrow, -⟩, hkW⟩ hK
    gi_wp2
    have hsW := hkW.size
    exact hK _ _ ((KeepsOthers.alloc _ _).from _) (KpM.of_kept (mut_own (n₀ := w.heap.size + 2) (by omega)) (by have := hv.lt; omega) ((Kept.refl _ W).alloc _))
      ⟨⟨v, hv.alloc _, hrow.alloc _, trivial⟩, hkW.alloc _⟩ ⟨W.heap.size, hv.lt, Box.made _ _ _, rfl⟩
  case body =>
    rintro l pre x a' W hl ⟨r, hr⟩ ⟨⟨v, hv, hrow, -⟩, hkW⟩ ⟨Bx, hBx, hX, rfl⟩ hlt
    have m0 := hX.cell 0
    have hc := hv.cell
    have hsW := hkW.size
    have hlv := hv.lt
    have HKW := Lib.hid hkW
    have hsml : x.1.1.kind = 1 → smallD x.1.1.dep := fun hk1 => by
      have := HSM.out (x.1.1.er, x.1.2) (by rw [← itemsT_er]; exact List.mem_map.2 ⟨x.1, x.2, rfl⟩) (by rw [er_kind]; exact hk1)
      rwa [er_dep] at this
    have hpl : ((pre.map Subtype.val).flatMap atomT).length ≤ 1000000 := by have := atomT_le (pre.map Subtype.val); rw [List.length_map] at this; have := HL.out; have := HC.out; omega
    by_cases hk1 : x.1.1.kind = 1
    · have hkb : ((x.1.1.kind : Int) == 1) = true := by simp; omega
      have hsd := hsml hk1
      have hap : ((pre ++ [x]).map Subtype.val).flatMap atomT = (pre.map Subtype.val).flatMap atomT ++ [x.1.1.dep] := by
        rw [List.map_append, List.flatMap_append]
        congr 1
        show [x.1].flatMap atomT = _
        rw [List.flatMap_cons, List.flatMap_nil, List.append_nil]
        unfold atomT
        rw [if_pos hk1]
      have HSD := Lib.hid hsd
      have HAP := Lib.hid hap
      have HX := Lib.hid hX
      have HV := Lib.hid hv
      have HROW := Lib.hid hrow
      clear hsml hk1 hsd hap hlt hX hkW
      generalize (pre.map Subtype.val).flatMap atomT = L at *
      gi_wp2
      refine wp_region_inv_round2 (SA (w.heap.size + 1) L.length w.heap.size Bx W v x.1.1.dep (cellsD9 L)) (RA (w.heap.size + 1) v)
        (CA (w.heap.size + 1) L.length w.heap.size W v x.1.1.dep (cellsD9 L))
        hmo (by kernel_rfl) (by kernel_rfl) ⟨fun _ => HV.out, fun _ _ => (Kept.refl _ W).drew, fun h => (by cases h), (Kept.refl _ W).drew⟩ (fun i j w1 w2 u hne hR h => SA.step hlv (fun j hj => (HROW.out.lt j hj).2) i j w1 w2 u hne hR h) ⟨OpOK2.plain rfl ?_, OpOK2.plain rfl ?_, OpOK2.plain rfl ?_, OpOK2.plain rfl ?_, OpOK2.plain rfl ?_, OpOK2.plain rfl ?_, OpOK2.plain rfl ?_, trivial⟩ ?_
      · intro ls a wz hC hz hnew hwait hs hd K hK
        obtain ⟨hC1, hC2, hC3, hC4⟩ := hC
        have e6 : ls.getD 6 false = false := hwait 6 _ rfl (by kernel_rfl)
        have c0 := (hC1 e6).cell
        have t3 := hs 3 _ (by kernel_rfl) rfl
        have t3' := t3
        rw [Array.getD_eq_getD_getElem?] at t3'
        clear hs hd
        go_simp
        exact hK _ _ (Kept.refl _ wz) (CA.keep (i := 0) (by decide) (by decide) (by omega) ⟨hC1, hC2, hC3, hC4⟩ (Kept.refl _ wz)) (fun _ => rfl)
      · intro ls a wz hC hz hnew hwait hs hd K hK
        obtain ⟨hC1, hC2, hC3, hC4⟩ := hC
        have t4 := hs 4 _ (by kernel_rfl) rfl
        have t4' := t4
        rw [Array.getD_eq_getD_getElem?] at t4'
        clear hs hd
        go_simp
        exact hK _ _ (Kept.refl _ wz) (CA.keep (i := 1) (by decide) (by decide) (by omega) ⟨hC1, hC2, hC3, hC4⟩ (Kept.refl _ wz)) (fun _ => rfl)
      · intro ls a wz hC hz hnew hwait hs hd K hK
        obtain ⟨hC1, hC2, hC3, hC4⟩ := hC
        have hbx := hC4.box HX.out (fun h => h.elim (fun e => by omega) (fun e => Box.of_own_ne HX.out HROW.out (by decide) _ e rfl))
        obtain ⟨u1, d1, s1⟩ := hd 1 13 (by kernel_rfl) (by kernel_rfl)
        change u1 = _ at s1
        subst s1
        have d1' := d1
        rw [Array.getD_eq_getD_getElem?] at d1'
        have c1 := hbx.cell 1
        have c2 := hbx.cell 2
        have c3 := hbx.cell 3
        have c4 := hbx.cell 4
        have c5 := hbx.cell 5
        clear hs hd
        go_simp
        exact hK _ _ (Kept.refl _ wz) (CA.keep (i := 2) (by decide) (by decide) (by omega) ⟨hC1, hC2, hC3, hC4⟩ (Kept.refl _ wz)) (fun _ => rfl)
      · intro ls a wz hC hz hnew hwait hs hd K hK
        obtain ⟨hC1, hC2, hC3, hC4⟩ := hC
        obtain ⟨u2, d2, s2⟩ := hd 2 14 (by kernel_rfl) (by kernel_rfl)
        change u2 = _ at s2
        subst s2
        have d2' := d2
        rw [Array.getD_eq_getD_getElem?] at d2'
        clear hs hd
        go_simp
        refine (copyDep9_walk x.1.1.dep HSD.out wz).mono ?_
        rintro e wv ⟨rfl, hkv⟩
        exact hK _ _ hkv (CA.keep (i := 3) (by decide) (by decide) (by omega) ⟨hC1, hC2, hC3, hC4⟩ hkv) (fun _ => rfl)
      · intro ls a wz hC hz hnew hwait hs hd K hK
        obtain ⟨hC1, hC2, hC3, hC4⟩ := hC
        obtain ⟨u3, d3, s3⟩ := hd 3 15 (by kernel_rfl) (by kernel_rfl)
        change u3 = _ at s3
        subst s3
        have d3' := d3
        rw [Array.getD_eq_getD_getElem?] at d3'
        clear hs hd
        go_simp
        exact hK _ _ ((Kept.refl _ wz).alloc _) (CA.keep (i := 4) (by decide) (by decide) (by omega) ⟨hC1, hC2, hC3, hC4⟩ ((Kept.refl _ wz).alloc _)) (fun _ => ⟨wz.heap.size, hC4.size, rfl, Box.made wz _ _⟩)
      · intro ls a wz hC hz hnew hwait hs hd K hK
        obtain ⟨hC1, hC2, hC3, hC4⟩ := hC
        have e6 : ls.getD 6 false = false := hwait 6 _ rfl (by kernel_rfl)
        have hkz := hC2 hnew e6
        obtain ⟨u0, d0, s0⟩ := hd 0 12 (by kernel_rfl) (by kernel_rfl)
        change u0 = _ at s0
        subst s0
        have d0' := d0
        rw [Array.getD_eq_getD_getElem?] at d0'
        obtain ⟨u4, d4, s4⟩ := hd 4 16 (by kernel_rfl) (by kernel_rfl)
        obtain ⟨g4, hg4, rfl, hb4⟩ := s4
        have d4' := d4
        rw [Array.getD_eq_getD_getElem?] at d4'
        clear hs hd
        refine wp_append_src9 (.tmp 12) (.tmp 16) 39 rfl w.heap.size 26 i0 (.agg #[.string ⟨#[]⟩, .int .u8 0, .int .i64 0, .string ⟨#[]⟩, .string ⟨#[]⟩]) 5 64 Tryd.underlying39 hi hz0 hz1 hz2 rfl (by decide) _ _ _ d0 (hkz.owns HROW.out (fun _ _ h => h)) (some ⟨g4, 0, none⟩) 1 1 (cellsD9 [x.1.1.dep]) d4 (fun h => by cases h) rfl (fun j u hj => ⟨_, rfl, one_dep9 hb4 j u hj⟩) (cellsD9_one _) (by show _ + 1 ≤ 9223372036854775807; omega) (by omega) (by have := hkz.size; omega) ?_
        intro v' w5 hown hgrow hwhere
        exact hK _ _ hgrow ⟨fun _ => (hC1 e6).kept hgrow ((hC1 e6).not_row (by decide) (hkz.owns HROW.out (fun _ _ h => h))), fun h => by simp [hz] at h, fun h => (by rw [getD_set_ne false (by decide)] at h; rw [e6] at h; cases h), hC4.grown hgrow (fun i hi => .inl (.inr hi))⟩ (fun _ => ⟨wz, w5, hkz, hgrow, hwhere, hown, Kept.refl _ w5⟩)
      · intro ls a wz hC hz hnew hwait hs hd K hK
        obtain ⟨hC1, hC2, hC3, hC4⟩ := hC
        have t3 := hs 3 _ (by kernel_rfl) rfl
        have t3' := t3
        rw [Array.getD_eq_getD_getElem?] at t3'
        obtain ⟨u5, d5, s5⟩ := hd 5 17 (by kernel_rfl) (by kernel_rfl)
        obtain ⟨w3, w5, g1, g2, g3, g4, g5⟩ := s5
        obtain ⟨a9, c9, e9⟩ := own_form g4
        subst e9
        have d5' := d5
        rw [Array.getD_eq_getD_getElem?] at d5'
        have hbz := hC1 hnew
        have c0 := hbz.cell
        have f0 := hbz.frozen
        clear hs hd
        go_simp
        have hfin := app_fin (by decide) HV.out HROW.out (by omega) g1 g2 g3 g4 g5 hbz
        exact hK undef _ ((Kept.refl (fun b => b = w.heap.size + 1) wz).setCell (p := ⟨w.heap.size + 1, 0, none⟩) (.inl rfl) _) ⟨fun h => by simp [hz] at h, fun _ h => by simp [hz] at h, fun _ => ⟨_, hfin⟩, hC4.setCell (p := ⟨w.heap.size + 1, 0, none⟩) (.inl (.inl rfl)) _⟩ (fun h => by cases h)
      intro ls wz hall hC
      intro v0 h0 v1 h1 v2 h2 v3 h3 v4 h4 v5 h5
      obtain ⟨vf, f1, f2, f3, f4, f5⟩ := hC.2.2.1 (hall 6 (by decide))
      clear hall h0 h1 h2 h3 h4 h5
      simp only [EndsP]
      go_simp
      gi_wp2
      exact ⟨f3.from _, f4, ⟨vf, f1, by rw [HAP.out, cellsD9_app, List.length_append]; exact f2, trivial⟩, HKW.out.trans (f5.weaker (T := fun i => w.heap.size ≤ i) (fun _ _ h => h)) (fun i hi h => by omega)⟩
    · have hkb : ((x.1.1.kind : Int) == 1) = false := by simp; omega
      have hap : ((pre ++ [x]).map Subtype.val).flatMap atomT = (pre.map Subtype.val).flatMap atomT := by
        rw [List.map_append, List.flatMap_append]
        show _ ++ [x.1].flatMap atomT = _
        rw [List.flatMap_cons, List.flatMap_nil, List.append_nil]
        unfold atomT
        rw [if_neg hk1, List.append_nil]
      clear hsml hk1
      gi_wp2
      exact ⟨(KeepsOthers.refl _).from _, KpM.refl _ W, ⟨v, hv, by rw [hap]; exact hrow, trivial⟩, HKW.out⟩
  case done =>
    rintro D ys W hD hys ⟨⟨v, hv, hrow, -⟩, hkW⟩ hK
    have hc := hv.cell
    rw [hys, atomsT_er] at hrow
    gi_wp2
    refine ⟨by simp, .inl ⟨_, _, rfl, run_takeDeferred hK, ?_⟩⟩
    exact ⟨_, results_tmp rfl _ _ _, ⟨v, rfl, ownsRow_putObj hrow _ hK rfl⟩, hkW.grown (grownBy_putObj' W D _) (fun i hi => by cases hi; exact .inr (by omega))⟩
  case stop =>
    rintro D c pre W _ _ h _
    exact h.elim
end Go.Proofs.YtndakcognjaeoaaDoor

namespace Go.Proofs.YtndakcognjaeoaaDoor
open Go.RowKit Rich

mutual
def sameX : R → R → Bool
  | .mk k d l, .mk k' d' l' => decide (k = k') && sameD d d' && decide (l.length = l'.length) && sameL l l'
def sameL : List R → List R → Bool
  | x :: l, y :: l' => sameX x y && sameL l l'
  | _, _ => true
def sameD (d d' : Dep.D) : Bool := decide (d.name = d'.name) && decide (d.op = d'.op) && decide (d.evr.epoch = d'.evr.epoch) && decide (d.evr.ver = d'.evr.ver) && decide (d.evr.rel = d'.evr.rel)
end
theorem sameD_iff {d d' : Dep.D} : sameD d d' = true ↔ d = d' := by
  obtain ⟨n, o, ⟨e, v, r⟩⟩ := d
  obtain ⟨n', o', ⟨e', v', r'⟩⟩ := d'
  unfold sameD
  simp [and_assoc]
mutual
theorem sameX_iff : ∀ a b : R, sameX a b = true ↔ a = b
  | .mk k d l, .mk k' d' l' => by
    rw [sameX, Bool.and_eq_true, Bool.and_eq_true, Bool.and_eq_true, sameD_iff, decide_eq_true_eq, decide_eq_true_eq]
    constructor
    · rintro ⟨⟨⟨rfl, rfl⟩, h⟩, h2⟩
      rw [(sameL_iff l l' h).1 h2]
    · intro h
      injection h with h1 h2 h3
      subst h3
      exact ⟨⟨⟨h1, h2⟩, rfl⟩, (sameL_iff l l rfl).2 rfl⟩
theorem sameL_iff : ∀ l l' : List R, l.length = l'.length → (sameL l l' = true ↔ l = l')
  | [], [], _ => by rw [sameL]; simp; simp
  | x :: l, y :: l', h => by
    rw [sameL, Bool.and_eq_true, sameX_iff x y, sameL_iff l l' (by simpa using h)]
    simp
end
theorem sameL_at {l l' : List R} (hl : l.length = l'.length) {i : Nat} {x y : R} (hx : l[i]? = some x) (hy : l'[i]? = some y) (h : sameX x y = false) : sameL l l' = false := by
  cases hs : sameL l l' with
  | false => rfl
  | true =>
    have e := (sameL_iff l l' hl).1 hs
    subst e
    rw [hx] at hy
    injection hy with hy
    subst hy
    rw [(sameX_iff x x).2 rfl] at h
    cases h
theorem sameL_all : ∀ {l l' : List R}, l.length = l'.length → (∀ (i : Nat) x y, l[i]? = some x → l'[i]? = some y → sameX x y = true) → sameL l l' = true
  | [], [], _, _ => by rw [sameL]; simp
  | x :: l, y :: l', hl, h => by
    rw [sameL, h 0 x y rfl rfl, sameL_all (by simpa using hl) (fun i a b ha hb => h (i + 1) a b (by simpa using ha) (by simpa using hb))]
    rfl
end Go.Proofs.YtndakcognjaeoaaDoor

namespace Go.Proofs.YtndakcognjaeoaaDoor
open Go.RowKit Ver Evr Span Dep Rich

theorem dep_neq9 (d e : D) (W : World) : (binOp .neq 26 (.agg (depA d)) (.agg (depA e))).run Tryd.prog W = .ok (.bool (!sameD d e)) W := by
  obtain ⟨n, o, ⟨p, v, r⟩⟩ := d
  obtain ⟨n', o', ⟨p', v', r'⟩⟩ := e
  by_cases h1 : n = n' <;> by_cases h2 : o = o' <;> by_cases h3 : p = p' <;> by_cases h4 : v = v' <;> by_cases h5 : r = r' <;> first | (simp [go_sem, sameD, h1, h2, h3, h4, h5]; done) | (simp [go_sem, sameD, h1, h2, h3, h4, h5]; omega)
def sameDs : List D → List D → Bool
  | [], [] => true
  | d :: l, e :: m => sameD d e && sameDs l m
  | _, _ => false
theorem sameDs_iff : ∀ {l m : List D}, sameDs l m = true ↔ l = m
  | [], [] => by simp [sameDs]
  | d :: l, [] => by simp [sameDs]
  | [], e :: m => by simp [sameDs]
  | d :: l, e :: m => by rw [sameDs, Bool.and_eq_true, sameD_iff, sameDs_iff]; simp
theorem sameDs_no {l m : List D} (h : l ≠ m) : sameDs l m = false := by
  cases hs : sameDs l m with
  | false => rfl
  | true => exact absurd (sameDs_iff.1 hs) h
theorem take_same {l m : List D} {i : Nat} {d e : D} (hd : l[i]? = some d) (he : m[i]? = some e) (h : l.take i = m.take i) (hs : sameD d e = true) : l.take (i + 1) = m.take (i + 1) := by
  rw [List.take_add_one, List.take_add_one, hd, he, h, sameD_iff.1 hs]
theorem not_same {l m : List D} {i : Nat} {d e : D} (hd : l[i]? = some d) (he : m[i]? = some e) (hs : sameD d e = false) : sameDs l m = false := by
  refine sameDs_no fun h => ?_
  subst h
  rw [hd] at he
  injection he with he
  subst he
  rw [sameD_iff.2 rfl] at hs
  cases hs
set_option maxRecDepth 100000 in
set_option maxHeartbeats 4000000 in
theorem depsR9_walk (l m : List D) (va vb : Value) (w : World) (hl : l.length < 140737488355328) (hA : DepsS w va l) (hB : DepsS w vb m) :
    Calls Tryd.prog 28 #[va, vb] w fun e w' => e = .returned (.bool (sameDs l m)) ∧ Kept (fun _ => False) w w' := by
  have hA0 := hA
  have hB0 := hB
  obtain ⟨ao, cp, rfl, _⟩ := hA
  obtain ⟨bo, cq, rfl, _⟩ := hB
  have HA := Lib.hid hA0
  have HB := Lib.hid hB0
  have hmo : Tryd.prog.follows .mixedOrders = true := by kernel_rfl
  clear hA0 hB0
  by_cases hlen : l.length = m.length
  · have hnI : ((l.length : Int) != (m.length : Int)) = false := by simp [hlen]
    have HLEN := Lib.hid hlen
    clear hlen
    go_enter Tryd.func28, Tryd.ntmps28
    go_wp2_with fail
    go_loopw [5] (fun v5 wr => ∃ i : Nat, v5 = .int .i64 (i : Int) ∧ i ≤ l.length ∧ Hid (l.take i = m.take i) ∧ Hid (Kept (fun _ => False) w wr)) (fun v5 _ => l.length - (intOf v5).toNat)
    case atStart => exact ⟨0, rfl, Nat.zero_le _, Lib.hid rfl, Lib.hid (Kept.refl _ _)⟩
    case round =>
      obtain ⟨i, rfl, hi, HT, HK⟩ := hrel
      rename World => wr
      by_cases hlt : i < l.length
      · obtain ⟨d, hd⟩ : ∃ d, l[i]? = some d := ⟨_, List.getElem?_eq_getElem hlt⟩
        have hlm : i < m.length := by rw [← HLEN.out]; exact hlt
        obtain ⟨e, he⟩ : ∃ e, m[i]? = some e := ⟨_, List.getElem?_eq_getElem hlm⟩
        obtain ⟨_, b, off, rfl, hb, c0, c1, c2, c3, c4⟩ := (HA.out.kept HK.out).at hd
        obtain ⟨_, b', off', rfl, hb', e0, e1, e2, e3, e4⟩ := (HB.out.kept HK.out).at he
        have hi0 : (0 : Int) ≤ (i : Int) := by omega
        have hiI : (i : Int) < (l.length : Int) := by omega
        have hiM : (i : Int) < (m.length : Int) := by omega
        have DN := dep_neq9 d e
        have HD := Lib.hid hd
        have HE := Lib.hid he
        cases hs : sameD d e with
        | true =>
          rw [hs] at DN
          have HS := Lib.hid hs
          clear hs hd he
          go_wp2_with fail
          go_quiet (fail)
          go_wp2_with fail
          go_roundw
          case rel => exact ⟨i + 1, by go_num, by omega, Lib.hid (take_same HD.out HE.out HT.out HS.out), Lib.hid (HK.out.drewN _)⟩
          case measure => simp [intOf]; omega
        | false =>
          rw [hs] at DN
          have HS := Lib.hid hs
          clear hs hd he
          go_wp2_with fail
          go_quiet (fail)
          go_wp2_with fail
          go_ret
          exact ⟨by rw [not_same HD.out HE.out HS.out]; rfl, HK.out.drewN _⟩
      · obtain rfl : i = l.length := by omega
        have hge : ¬ (l.length : Int) < (l.length : Int) := by omega
        clear hlt hi
        have HF := Lib.hid (show sameDs l m = true by
          have h := HT.out
          rw [List.take_length, HLEN.out, List.take_length] at h
          exact sameDs_iff.2 h)
        go_wp2_with fail
        go_ret
        exact ⟨by rw [HF.out]; rfl, HK.out⟩
  · have hnI : ((l.length : Int) != (m.length : Int)) = true := bne_iff_ne.2 (by omega)
    have HF := Lib.hid (show sameDs l m = false from sameDs_no fun h => hlen (by rw [h]))
    clear hlen
    go_enter Tryd.func28, Tryd.ntmps28
    go_wp2_with fail
    go_ret
    exact ⟨by rw [HF.out]; rfl, Kept.refl _ _⟩
end Go.Proofs.YtndakcognjaeoaaDoor
