/-
  What a store into a pool's map, and a row more, leave of it (layer 12). A region that draws its order, in the body of a loop over an iterator: walked once, where its calls make memory but leave the old blocks alone. Nothing of the program is named here. A region that draws its order, in the body of a loop over an iterator, operation by operation: XInvReg's law there. Nothing of the program is named here. XInvReg's law, where what an operation may do hangs on which it is: what a slot holds must stand what the others do alone. Nothing of the program is named here. What slots, operations and the world are in a region that builds a one-element slice, appends it, and stores the slice. Nothing of the program is named here. Conditions: as each theorem states.
-/
import Derived.Test.YtpdoeapjdifmbaaGreatDoorK03
import Derived.Test.YtpdoeapjdifmbaaGreatDoorK02
import Derived.Sort.QuietThIn
namespace Go.Proofs.YtpdoeapjdifmbaaGreatDoor
open Go.RowKit Ver Evr Span Dep Rich
open Go.Maps Go.ChangeMaps Go.MapKept Go.ChangeShapes Go.WideMaps
open Go.WideElems (Fit rd rg pl rd_val elemAt)

/-- What stands at a key hangs on the map's block alone. -/
theorem look_same {P : Program} {k e E t : TypeId} {q : IntKind} {w w' : World} {base b n n' : Nat} {D D' : DataW Unit} {key : Value} {kl : Lit} {v : Value} (K : Keyed P k) (ht : P.underlying t = some (.map k E)) (hz : ∀ w, (zeroValue E).run P w = .ok (.slice none 0 0) w) (hkey : keyOf P k key = some kl)
    (h : w.ownsGroups P k base e q b n D) (h' : w'.ownsGroups P k base e q b n' D') (hb : w'.heap[b]? = w.heap[b]?) (hr : (Instr.lookup t (.map (some b)) key false).run P w = .ok v w) : (Instr.lookup t (.map (some b)) key false).run P w' = .ok v w' := by
  obtain ⟨es, clock, hb1, F1, _⟩ := h
  obtain ⟨es2, clock2, hb2, F2, _⟩ := h'
  have hes : es2 = es := by
    rw [hb2, hb1] at hb
    injection hb with hb
    injection hb
  subst hes
  have hkeys := ((stamped_iff _ _).1 F1.stamped).2.2
  rcases Maps.fit_look false K ht (hz w) hb1 F1 hkey with ⟨r1, n1, _⟩ | ⟨e0, _, m0, k0, r1, _⟩ <;> rcases Maps.fit_look false K ht (hz w') hb2 F2 hkey with ⟨r2, n2, _⟩ | ⟨e1, _, m1, k1, r2, _⟩
  · rw [r1] at hr
    obtain rfl : Value.slice none 0 0 = v := by simpa using hr
    simpa using r2
  · exact absurd k1 (n1 e1 m1)
  · exact absurd k0 (n2 e0 m0)
  · rw [r1] at hr
    obtain rfl : e0.val = v := by simpa using hr
    have he : e0 = e1 := by
      obtain ⟨i, hi, rfl⟩ := List.mem_iff_getElem.1 m0
      obtain ⟨j, hj, rfl⟩ := List.mem_iff_getElem.1 m1
      rcases Nat.lt_trichotomy i j with h | h | h
      · exact absurd (k0.trans k1.symm) ((List.pairwise_iff_getElem.1 hkeys) i j hi hj h)
      · subst h; rfl
      · exact absurd (k1.trans k0.symm) ((List.pairwise_iff_getElem.1 hkeys) j i hj hi h)
    rw [he]
    simpa using r2
theorem oper_append_at {P : Program} {w : World} {o : Oper} {a : Act} {K : Act → World → Prop} {Q : Exit → Act → World → Prop} (s x : Operand) (t : TypeId) (d : Tmp)
    (ho : o.op = .call { callee := .builtin .append, args := #[s, x], argTypes := #[t, t] }) (base : Nat) (e : TypeId) (i : TypeInfo) (z : Value) (size bytes : Nat) (ht : P.underlying t = some (.slice e)) (hi : P.info? e = some i) (hz : i.zero = some z)
    (hsize : i.size = size) (hby : i.bytes = bytes) (hzs : z.cells.size = size) (hsz : 0 < size) (v : Value) (n : Nat) (xs : List Value) (hs : a.eval s = v) (hown : w.ownsRow base e size v n xs)
    (ad : Addr) (m c : Nat) (news : List Value) (hx : a.eval x = .slice (some ad) m c) (hl : news.length = m * size) (hnews : ∀ j u, news[j]? = some u → w.cell? (ad.add j) = some u) (h1 : ∀ u ∈ news, u.oneCell' = true)
    (h63 : n + m ≤ maxLen) (hbytes : (n + m) * bytes ≤ 140737488355328) (hbase : base ≤ w.heap.size) (hd : o.dst = some d)
    (h : ∀ v' w', w'.ownsRow base e size v' (n + m) (xs ++ news) → w.grownBy w' v.ownBlock → (v'.ownBlock = v.ownBlock ∨ v'.ownBlock = some w.heap.size) → K (a.put (some d) v') w') : o.wp P a w K Q := by
  obtain ⟨v', w', hr, h2, h3, _, h4⟩ := run_append_own_at (P := P) w base t o.type e i z size bytes ht hi hz hsize hby hzs hsz v n xs hown ad m c news hl hnews h1 h63 hbytes hbase
  unfold Oper.wp execOp
  simp only [ho, resolve, invoke, builtin, Sem.run_bind, Sem.run_pure, Result.andThen_ok, List.map_toArray, List.map_cons, List.map_nil, hs, hx, hr]
  show K (a.put o.dst v') w'
  rw [hd]
  exact h v' w' h2 h3 h4
theorem oper_lookup {P : Program} {w : World} {o : Oper} {a : Act} {K : Act → World → Prop} {Q : Exit → Act → World → Prop} (m x : Operand) (t : TypeId) (d : Tmp) (hop : o.op = Op.lookup t m x false) (hd : o.dst = some d) {mv key v : Value} (hm : a.eval m = mv) (hx : a.eval x = key)
    (hr : (Instr.lookup t mv key false).run P w = .ok v w) (h : K (a.put (some d) v) w) : o.wp P a w K Q := by
  unfold Oper.wp
  simp [execOp, hop, hm, hx, hr, Result.andThen]
  show K (a.put o.dst v) w
  rw [hd]
  exact h
theorem oper_mapUpdate {P : Program} {w w2 : World} {o : Oper} {a : Act} {K : Act → World → Prop} {Q : Exit → Act → World → Prop} (m x v : Operand) (t : TypeId) (hop : o.op = Op.mapUpdate t m x v) {mv key u : Value} (hm : a.eval m = mv) (hx : a.eval x = key) (hv : a.eval v = u)
    (hr : (Instr.mapUpdate t mv key u).run P w = .ok () w2) (h : K (a.put o.dst undef) w2) : o.wp P a w K Q := by
  unfold Oper.wp
  simp [execOp, hop, hm, hx, hv, hr, Result.andThen]
  exact h
/-- A block of cells is not the map's. -/
theorem box_ne_map {w : World} {g b : Nat} {T : TypeId} {cs : Array Value} {es : Array MapEntry} {clock : Nat} (h : Box w g T cs) (hb : w.heap[b]? = some (.map es clock)) : g ≠ b := fun e => by
  subst e
  have e2 := (show w.heap[g]? = _ from h).symm.trans hb
  cases e2
theorem own_ne_map {w : World} {base size n b : Nat} {e : TypeId} {v : Value} {xs : List Value} {es : Array MapEntry} {clock : Nat} (h : w.ownsRow base e size v n xs) (hb : w.heap[b]? = some (.map es clock)) : ∀ g, v.ownBlock = some g → g ≠ b := by
  intro g hg
  rcases h.2 with ⟨hv, _⟩ | ⟨g', cap, cur, hv, _, hh, _⟩
  · subst hv; cases hg
  · subst hv
    obtain rfl : g' = g := by simpa [Value.ownBlock] using hg
    exact box_ne_map (show Box w g' e cur from hh) hb
section
variable {lo : Nat} {B : Nat → Prop} {inst : Int} {w w1 w2 : World} {pb : Nat} {v : Value} {mb : Nat} {D D' : DataW Unit} {l : List PRow} {L : List ByteArray}
theorem PG.map_obj (h : PG lo B inst w pb v mb D l L) : ∃ es clock, w.heap[mb]? = some (.map es clock) := by
  obtain ⟨es, clock, hb, _⟩ := h.grp
  exact ⟨es, clock, hb⟩
/-- What the look-up of a name gives. -/
structure LkOk (lo : Nat) (B : Nat → Prop) (w : World) (v : Value) (mb : Nat) (D : DataW Unit) (L : List ByteArray) (nm : ByteArray) (u : Value) : Prop where
  own : w.ownsInts (mb + 1) 3 .i64 u (posI nm L)
  back : w.groupBack Tryz.prog 77 9 (mb + 1) 3 .i64 mb L.length D (.string nm) (.string nm.data.toList) u
  off : ∀ g, u.ownBlock = some g → ¬ (B g ∨ v.ownBlock = some g)
theorem string_keyed12 : Keyed Tryz.prog 9 := string_keyed Tryz.underlying9
theorem zero_ints12 (w : World) : (zeroValue 34).run Tryz.prog w = .ok (.slice none 0 0) w := by kernel_rfl
theorem PG.look (h : PG lo B inst w pb v mb D l L) (hL : L.length < 1000000) {nm : ByteArray} (hn : nm.size ≤ maxLen) : ∃ u, (Instr.lookup 77 (.map (some mb)) (.string nm) false).run Tryz.prog w = .ok u w ∧ LkOk lo B w v mb D L nm u := by
  have hkey := keyOf_string_mk Tryz.underlying9 hn
  obtain ⟨u, zs, hr, hat, hoi, hzl, hback⟩ := h.grp.at string_keyed12 Tryz.underlying77 (zero_ints12 w) (by unfold maxLen; omega) hkey
  obtain rfl := h.gro.find hat hoi
  refine ⟨u, hr, hoi, hback, ?_⟩
  obtain ⟨es, clock, hb, F, _⟩ := h.grp
  rcases Maps.fit_look false string_keyed12 Tryz.underlying77 (zero_ints12 w) hb F hkey with ⟨hrun', _, _⟩ | ⟨e0, y, hm0, _, hrun', _, _, _⟩
  · rw [hr] at hrun'
    obtain rfl : u = .slice none 0 0 := by simpa using hrun'
    intro g hg'
    cases hg'
  · rw [hr] at hrun'
    obtain rfl : u = e0.val := by simpa using hrun'
    exact fun g hg' => h.shu es clock hb e0 hm0 g hg'
/-- Behind a store of the new number at its name. -/
theorem PG.stored (h : PG lo B inst w pb v mb D l L) (hL : L.length < 1000000) {nm : ByteArray} (hn : nm.size ≤ maxLen) {u u' : Value} (hk : LkOk lo B w v mb D L nm u) (hall : w.grownBy w1 u.ownBlock) (ho : w1.ownsInts (mb + 1) 3 .i64 u' (posI nm L ++ [(L.length : Int)]))
    (hloc : u'.ownBlock = u.ownBlock ∨ ∃ g, u'.ownBlock = some g ∧ w.heap.size ≤ g) : ∃ w2 D', (Instr.mapUpdate 77 (.map (some mb)) (.string nm) u').run Tryz.prog w1 = .ok () w2 ∧ PG lo B inst w2 pb v mb D' l (L ++ [nm]) ∧ Kept (fun b => lo ≤ b) w w2 ∧ w1.grownBy w2 (some mb) ∧ (∀ (g : Nat) (T : TypeId) (cs : Array Value), Box w g T cs → 3 ≠ T → Box w2 g T cs) ∧ ∀ p s, PkQ B w p s → PkQ B w2 p s := by
  have hkey := keyOf_string_mk Tryz.underlying9 hn
  obtain ⟨w2, hr, hg2, hgr2⟩ := hk.back w1 u' _ hall ho (by rw [List.length_append]; have := posI_len nm L; simp; omega) hloc
  obtain ⟨es, clock, hb⟩ := h.map_obj
  have hlt := (groups_lt h.grp).1
  have hum : ∀ g, u.ownBlock = some g → g ≠ mb := own_ne_map hk.own.1 hb
  have hb1 : w1.heap[mb]? = some (.map es clock) := (hall.block mb hlt (fun e => hum mb e.symm rfl)).trans hb
  have hF : ∃ R : Value → Option (DataW Unit × List MemPlace), Fit Tryz.prog 9 R es clock ∧ es.size ≤ L.length := by
    obtain ⟨es', clock', hb', F, hs, _⟩ := h.grp
    rw [hb] at hb'
    injection hb' with hb'
    injection hb' with e1 e2
    subst e1 e2
    exact ⟨_, F, hs⟩
  obtain ⟨R, F, hs⟩ := hF
  have hsh : w2.Shuns mb (fun g => B g ∨ v.ownBlock = some g) := by
    obtain ⟨es', clock', hb2, hwho⟩ := stored_who string_keyed12 Tryz.underlying77 hb1 F (by unfold maxLen; omega) hkey hr
    intro es2 clock2 hb2' y hy g hyg
    obtain ⟨rfl, rfl⟩ : es' = es2 ∧ clock' = clock2 := by rw [hb2] at hb2'; simpa using hb2'
    rcases hwho y hy with ⟨hy0, _⟩ | ⟨_, hval⟩
    · exact h.shu es clock hb y hy0 g hyg
    · rw [hval] at hyg
      rcases hloc with e | ⟨g', e, hle⟩
      · exact hk.off g (e ▸ hyg)
      · rw [e] at hyg
        injection hyg with hyg
        subst hyg
        rintro (h1 | h1)
        · have := (h.bl _ h1).2; omega
        · have := (h.row.lt _ h1).2; omega
  have hk1 : Kept (fun b => some b = u.ownBlock ∨ b = mb) w w1 := kept_grown hall (fun i hi => .inl (.inl hi.symm))
  have hk2 : Kept (fun b => some b = u.ownBlock ∨ b = mb) w w2 := hk1.grown hgr2 (fun i hi => .inl (.inr (Option.some.inj hi).symm))
  have hpu : ∀ i, u.ownBlock = some i → i ≠ pb := h.box.of_own_ne hk.own.1 (by decide)
  have hkq : ∀ p s, PkQ B w p s → PkQ B w2 p s := fun p s hp => hp.kept hk2 (fun b hb' hs hB => by
    rcases hs with e | e
    · exact hk.off b e.symm (.inl hB)
    · subst e; exact h.bm hB)
  refine ⟨w2, _, hr, ⟨hk2.box h.box ?_, hk2.owns h.row ?_, by rw [List.length_append, List.length_singleton]; exact hg2, h.gro.put ho, hsh, h.lop, h.lom, h.bp, h.bm, h.br, fun g hg => ⟨(h.bl g hg).1, Nat.lt_of_lt_of_le (h.bl g hg).2 hk2.size⟩, fun r hr => hkq _ _ (h.pks r hr)⟩, hk2.weaker ?_, hgr2, fun g T cs hx hT => hk2.box hx ?_, hkq⟩
  · rintro (e | e)
    · exact hpu pb e.symm rfl
    · exact box_ne_map h.box hb e
  · rintro i hi (e | e)
    · exact hk.off i e.symm (.inr hi)
    · exact own_ne_map h.row hb i hi e
  · rintro i hi (e | e)
    · have := (hk.own.1.lt i e.symm).1
      have := h.lom
      show lo ≤ i
      omega
    · subst e; exact h.lom
  · rintro (e | e)
    · exact hx.of_own_ne hk.own.1 hT g e.symm rfl
    · exact box_ne_map hx hb e
set_option maxRecDepth 20000 in
/-- Behind a row more: w1: behind the append; w2: its slice stored. -/
theorem PG.rowed (h : PG lo B inst w pb v mb D l L) {r : PRow} {v' : Value} (hall : w.grownBy w1 v.ownBlock) (ho : w1.ownsRow lo 88 17 v' (l.length + 1) (rowsC l ++ (prowA r).toList)) (hloc : v'.ownBlock = v.ownBlock ∨ ∃ g, v'.ownBlock = some g ∧ w.heap.size ≤ g) (hr : PkQ B w r.p r.s) :
    PG lo B inst (w1.setCell ⟨pb, 0, none⟩ v') pb v' mb D (l ++ [r]) L ∧ Kept (fun b => lo ≤ b) w (w1.setCell ⟨pb, 0, none⟩ v') := by
  obtain ⟨es, clock, hb⟩ := h.map_obj
  have hvm : ∀ g, v.ownBlock = some g → g ≠ mb := own_ne_map h.row hb
  have hvp : ∀ i, v.ownBlock = some i → i ≠ pb := h.box.of_own_ne h.row (by decide)
  have hk1 : Kept (fun b => some b = v.ownBlock) w w1 := kept_grown hall (fun i hi => .inl hi.symm)
  have hbx := hk1.box h.box (fun e => hvp pb e.symm rfl)
  have hk2 : Kept (fun b => some b = v.ownBlock ∨ b = pb) w (w1.setCell ⟨pb, 0, none⟩ v') := (hk1.weaker (fun _ _ h => .inl h)).setCell (p := ⟨pb, 0, none⟩) (.inl (.inr rfl)) v'
  have hkp : Kept (fun b => b = pb) w1 (w1.setCell ⟨pb, 0, none⟩ v') := (Kept.refl (fun b => b = pb) w1).setCell (p := ⟨pb, 0, none⟩) (.inl rfl) v'
  have hv'p : ∀ i, v'.ownBlock = some i → i ≠ pb := hbx.of_own_ne ho (by decide)
  have hlo2 : ∀ i, v.ownBlock = some i → lo ≤ i := fun i hi => (h.row.lt i hi).1
  have hblt := h.box.lt
  have hgk : (w1.setCell ⟨pb, 0, none⟩ v').ownsGroups Tryz.prog 9 (mb + 1) 3 .i64 mb L.length D := by
    have h1 := h.grp.kept hall (fun e => hvm mb e.symm rfl) (h.shu.rowsOff (fun j hj => .inr hj))
    have hg2 : w1.grownBy (w1.setCell ⟨pb, 0, none⟩ v') (some pb) := ⟨hkp.os, hkp.tape, hkp.output, hkp.size, fun k hk hne => hkp.block k hk (fun e => hne (by rw [e]))⟩
    refine h1.kept hg2 (fun e => box_ne_map h.box hb (by injection e with e; exact e.symm)) (fun es' clock' hb' x hx => ?_)
    cases hxo : x.val.ownBlock with
    | none => exact .inl rfl
    | some g =>
      refine .inr (fun e => ?_)
      injection e with e
      subst e
      obtain ⟨es2, clock2, hb2, F, _⟩ := h1
      obtain ⟨rfl, rfl⟩ : es2 = es' ∧ clock2 = clock' := by rw [hb2] at hb'; simpa using hb'
      obtain ⟨y, hy⟩ := F.reads x hx
      obtain ⟨z, hz, _⟩ := rd_val hy
      obtain ⟨zs, hoi, _⟩ := rowElem_inv hz
      exact hbx.of_own_ne hoi.1 (show 3 ≠ 80 by decide) g hxo rfl
  have hlt := (groups_lt h.grp).1
  refine ⟨⟨by have := hbx.stored 0 v'; exact this, ?_, hgk, h.gro, ?_, h.lop, h.lom, h.bp, h.bm, fun g hg hB => ?_, fun g hg => ⟨(h.bl g hg).1, Nat.lt_of_lt_of_le (h.bl g hg).2 hk2.size⟩, fun x hx => ?_⟩, hk2.weaker ?_⟩
  · rw [List.length_append, List.length_singleton, rowsC_app, rowsC_one]
    exact hkp.owns ho (fun i hi e => hv'p i hi e)
  · refine shuns_kept (h.shu.reno h.grp (No' := fun g => B g ∨ v'.ownBlock = some g) (fun g hg => ?_)) hk2 hlt (fun e => ?_)
    · rcases hg with hg | hg
      · exact .inl (.inl hg)
      · rcases hloc with e | ⟨g', e, hle⟩
        · exact .inl (.inr (e ▸ hg))
        · rw [e] at hg
          injection hg with hg
          exact .inr (by omega)
    · rcases e with e | e
      · exact hvm mb e.symm rfl
      · exact box_ne_map h.box hb e.symm
  · rcases hloc with e | ⟨g', e, hle⟩
    · exact h.br g (e ▸ hg) hB
    · rw [e] at hg
      injection hg with hg
      have := (h.bl g hB).2
      omega
  · have hx' : PkQ B w x.p x.s := by
      rcases List.mem_append.1 hx with hx | hx
      · exact h.pks x hx
      · rw [List.mem_singleton] at hx
        subst hx
        exact hr
    refine hx'.kept hk2 (fun b hb' hs hB => ?_)
    rcases hs with e | e
    · exact h.br b e.symm hB
    · subst e; exact h.bp hB
  · rintro i hi (e | e)
    · exact hlo2 i e.symm
    · subst e; exact h.lop
end
end Go.Proofs.YtpdoeapjdifmbaaGreatDoor

namespace Go.Proofs.YtpdoeapjdifmbaaGreatDoor
open Go.RowKit

/-- No statement here is put off. -/
def plainB (ops : Array Oper) : Bool := ops.all fun o => match o.op with | .defer _ => false | _ => true
theorem plain_spec {ops : Array Oper} (h : plainB ops = true) {i : Nat} {o : Oper} (ho : ops[i]? = some o) : ∀ c, o.op ≠ .defer c := by
  intro c hc
  have h1 := Array.all_eq_true_iff_forall_mem.1 h o (Array.mem_of_getElem? ho)
  rw [hc] at h1
  cases h1
section
variable {F : Fence} {n l : Nat} {P : Program} {md : Region.Mode} {ops : Array Oper} {Q : Exit → Act → World → Prop}
theorem wpIn_round {o : Oper} {a : Act} {w : World} {K : Act → World → Prop} (hd : ∀ c, o.op ≠ .defer c) (h : o.wpIn F n P a w K Q) : o.wpIn (F.inRound l) n P a w K Q := by
  unfold Oper.wpIn at *
  refine ⟨h.1, ?_⟩
  have h2 := h.2
  rw [Oper.semAt_eq _ _ _ hd] at h2 ⊢
  generalize (execOp a.eval o).run P w = r at *
  cases r with
  | ok x w' => cases x <;> exact h2
  | halt x w' => cases x <;> exact h2
theorem wpAnyIn_round (hd : plainB ops = true) : ∀ (fuel : Nat) (listed : Array Bool) (a : Act) (w : World), wpAnyIn F n P md ops Q fuel listed a w → wpAnyIn (F.inRound l) n P md ops Q fuel listed a w := by
  intro fuel
  induction fuel with
  | zero => intro listed a w h; exact h
  | succ fuel ih =>
    intro listed a w h
    refine ⟨h.1, fun i hi => ?_⟩
    have h1 := wpOpIn_mono (fun a w => ih _ a w) (h.2 i hi)
    unfold wpOpIn at h1 ⊢
    cases ho : ops[i]? with
    | none => simp only [ho] at h1 ⊢; exact h1
    | some o =>
      simp only [ho] at h1 ⊢
      split
      · rename_i hw
        rw [if_pos hw] at h1
        exact wpIn_round (plain_spec hd ho) h1
      · rename_i hw
        rw [if_neg hw] at h1
        exact h1
end
section
variable {n l : Nat} {P : Program} {ops : Array Oper} {C : World → Prop} {Q : Act → Prop}
theorem quietIn_of {o : Oper} {a : Act} {K : Act → Prop} (h : o.quiet P a C K) : o.quietIn Fence.wide n P a C K := by
  obtain ⟨v, h1, h2⟩ := h
  refine ⟨v, fun w hw => ?_, h2⟩
  have h3 := h1 w hw
  unfold Oper.quietAtIn
  unfold Oper.quietAt at h3
  generalize (execOp a.eval o).run P w = r at *
  cases r with
  | ok x w' =>
    cases x with
    | enter f args => exact ⟨h3.1, fun h => absurd h (by decide), callsIn_wide.2 h3.2⟩
    | _ => exact h3
  | halt x w' => cases x <;> exact h3
theorem wpQuietIn_of : ∀ (l : List Oper) (a : Act), wpQuiet P ops C Q l a → wpQuietIn Fence.wide n P ops C Q l a
  | [], _, h => h
  | o :: l, a, h => by
    refine ⟨fun _ _ _ _ => trivial, ?_⟩
    unfold wpQuiet at h
    split
    · rename_i hw
      rw [if_pos hw] at h
      exact quietIn_of (by
        obtain ⟨v, h1, h2⟩ := h
        exact ⟨v, h1, wpQuietIn_of l _ h2⟩)
    · rename_i hw
      rw [if_neg hw] at h
      exact wpQuietIn_of l _ h
end
theorem wp_region_round {P : Program} {n l id : Nat} {Q : Exit → Act → World → Prop} {a : Act} {w : World} {os : List Oper} {T : Type} (F : T → World) (t0 : T) (h0 : F t0 = w.drew) (hm : P.follows .mixedOrders = true) (hd : plainB os.toArray = true) (hB : Region.lexB .any os.toArray = true)
    (h : wpQuiet P os.toArray (fun w' => ∃ n, w' = F n) (fun a' => ∀ w', (∃ n, w' = F n) → Q .normal a' w') os a) : (Code.region id os.toArray true).wpIn (Fence.wide.inRound l) n P Q a w := by
  have hB' := hB
  simp only [Region.lexB, Bool.and_eq_true] at hB'
  refine wpIn_region_any hm (wpAnyIn_round hd _ _ _ _ (wpAnyIn_of_quiet (C := fun w' => ∃ n, w' = F n) (Q := fun a' => ∀ w', (∃ n, w' = F n) → Q .normal a' w') rfl (fun _ w' hw' h => h w' hw') _ _ _ _ ⟨t0, h0.symm⟩ ?_))
  have := wpAnyQIn_lex (F := Fence.wide) (n := n) (C := fun w' => ∃ n, w' = F n) (md := .any) hB'.1 os 0 (Array.replicate os.toArray.size false) a (by simp) (by simpa using hB'.2) (wpQuietIn_of os a h)
  simpa using this
end Go.Proofs.YtpdoeapjdifmbaaGreatDoor

namespace Go.Proofs.YtpdoeapjdifmbaaGreatDoor
open Go.RowKit

section
variable {n : Nat} {P : Program} {ops : Array Oper} {md : Region.Mode} {Q : Exit → Act → World → Prop}
end
end Go.Proofs.YtpdoeapjdifmbaaGreatDoor

namespace Go.Proofs.YtpdoeapjdifmbaaGreatDoor
open Go.RowKit

section
variable {P : Program}
/-- What is asked of operation o, number i, where it is carried out, slots as in a0 but for what has come up; C: what holds of the world once these have come up; R: what an operation may do. -/
def OpWP2 (P : Program) (Q : Exit → Act → World → Prop) (S : Nat → World → Value → Prop) (R : Nat → World → World → Prop) (C : Array Bool → World → Prop) (l : List Oper) (a0 : Act) (i : Nat) (o : Oper) : Prop :=
  ∀ (listed : Array Bool) (a : Act) (w : World), C listed w → listed.size = l.length → listed.getD i false = false → (∀ j p, l[j]? = some p → waitsB p i = true → listed.getD j false = false) →
    (∀ t v, nobodyB l t = true → a0.tmps.getD t undef = v → a.tmps.getD t undef = v) →
    (∀ j d, waitsB o j = true → dstOf l.toArray j = some d → ∃ v, a.tmps.getD d undef = v ∧ S j w v) →
    ∀ K : Act → World → Prop, (∀ v w', R i w w' → C (listed.setIfInBounds i true) w' → (o.dst.isSome = true → S i w' v) → K (a.put o.dst v) w') → o.wp P a w K Q
/-- The same, whether it is carried out or not. -/
def OpOK2 (P : Program) (Q : Exit → Act → World → Prop) (S : Nat → World → Value → Prop) (R : Nat → World → World → Prop) (C : Array Bool → World → Prop) (l : List Oper) (a0 : Act) (i : Nat) (o : Oper) : Prop :=
  ∀ (listed : Array Bool) (a : Act) (w : World), C listed w → listed.size = l.length → listed.getD i false = false → (∀ j p, l[j]? = some p → waitsB p i = true → listed.getD j false = false) →
    (∀ t v, nobodyB l t = true → a0.tmps.getD t undef = v → a.tmps.getD t undef = v) →
    (∀ j d, waitsB o j = true → dstOf l.toArray j = some d → ∃ v, a.tmps.getD d undef = v ∧ S j w v) →
    ∀ K : Act → World → Prop, (∀ v w', R i w w' → C (listed.setIfInBounds i true) w' → (o.dst.isSome = true → S i w' v) → K (a.put o.dst v) w') → if Region.wanted o (yielded l.toArray a.tmps) = true then o.wp P a w K Q else K (a.put o.dst undef) w
section
variable {Q : Exit → Act → World → Prop} {S : Nat → World → Value → Prop} {R : Nat → World → World → Prop} {C : Array Bool → World → Prop} {l : List Oper} {a0 : Act} {i : Nat} {o : Oper}
theorem OpOK2.plain (hg : o.guard = none) (h : OpWP2 P Q S R C l a0 i o) : OpOK2 P Q S R C l a0 i o := fun ls a w h1 hz h2 h3 h4 h5 K hK => by
  rw [if_pos (by simp [Region.wanted, hg])]
  exact h ls a w h1 hz h2 h3 h4 h5 K hK
end
def OpsOK2 (P : Program) (Q : Exit → Act → World → Prop) (S : Nat → World → Value → Prop) (R : Nat → World → World → Prop) (C : Array Bool → World → Prop) (l : List Oper) (a0 : Act) : Nat → List Oper → Prop
  | _, [] => True
  | i, o :: r => OpOK2 P Q S R C l a0 i o ∧ OpsOK2 P Q S R C l a0 (i + 1) r
theorem OpsOK2.at {Q : Exit → Act → World → Prop} {S : Nat → World → Value → Prop} {R : Nat → World → World → Prop} {C : Array Bool → World → Prop} {l : List Oper} {a0 : Act} : ∀ (r : List Oper) (k : Nat), OpsOK2 P Q S R C l a0 k r → ∀ i o, r[i]? = some o → OpOK2 P Q S R C l a0 (k + i) o
  | [], _, _, i, o, h => by simp at h
  | p :: r, k, hh, 0, o, h => by
    have : p = o := by simpa using h
    subst this
    exact hh.1
  | p :: r, k, hh, i + 1, o, h => by
    have := OpsOK2.at r (k + 1) hh.2 i o (by simpa using h)
    rwa [show k + 1 + i = k + (i + 1) by omega] at this
/-- **One goal for each operation**: of what values it makes, for whatever values of their kinds the others have made; and one for what stands behind. -/
theorem wp_region_inv2 {P : Program} {Q : Exit → Act → World → Prop} {id : Nat} {l : List Oper} {a0 : Act} {w0 : World} (S : Nat → World → Value → Prop) (R : Nat → World → World → Prop) (C : Array Bool → World → Prop) (hm : P.follows .mixedOrders = true) (hB : invB a0.tmps.size 0 l = true)
    (hC : C (Array.replicate l.toArray.size false) w0.drew) (hst : ∀ i j w w' v, j ≠ i → R i w w' → S j w v → S j w' v) (hops : OpsOK2 P Q S R C l a0 0 l)
    (hend : ∀ listed w, (∀ i, i < l.length → listed.getD i false = true) → C listed w → EndsP Q S w 0 l a0) : (Code.region id l.toArray true).wp P Q a0 w0 := by
  have hsp := invB_spec l 0 hB
  refine wp_region_any hm (wpAny_inv (InvS l S C a0) ?_ ?_ _ _ _ _ (by simp) (by simp) ?_)
  · intro listed a w i hs hi hI
    obtain ⟨h0, o, ho, hall⟩ := mem_ready.1 hi
    have ho' : l[i]? = some o := by simpa using ho
    have hil : i < listed.size := by rw [hs]; exact (Array.getElem?_eq_some_iff.1 ho).1
    have h0f : listed.getD i false = false := by simpa [hil] using h0
    obtain ⟨hdd, hback⟩ := hsp i o ho'
    have hok := OpsOK2.at l 0 hops i o ho'
    rw [Nat.zero_add] at hok
    refine wpOp_step ho fun K' hK' => hok listed a w hI.cls (by rw [hs]; simp) h0f (fun j p hj hw => ?_) (fun t v ht h => ?_) (fun j e hw he => ?_) _ fun v w' hR hc hv => hK' _ _ ?_
    · cases hlj : listed.getD j false with
      | false => rfl
      | true =>
        unfold waitsB at hw
        obtain ⟨ed, hed, hb⟩ := Array.any_eq_true'.1 hw
        simp only [Bool.and_eq_true, beq_iff_eq] at hb
        have := hI.closed j p hj hlj ed hed hb.1
        rw [hb.2, h0f] at this
        cases this
    · rw [← h, Array.getD_eq_getD_getElem?, Array.getD_eq_getD_getElem?, hI.same t ht]
    · unfold waitsB at hw
      obtain ⟨ed, hed, hb⟩ := Array.any_eq_true'.1 hw
      simp only [Bool.and_eq_true, beq_iff_eq] at hb
      obtain ⟨u, hu1, hu2⟩ := hI.slot j e he (by rw [← hb.2]; exact hall ed hed hb.1)
      exact ⟨u, by rw [Array.getD_eq_getD_getElem?, hu1]; rfl, hu2⟩
    · have hnot : ∀ t, nobodyB l t = true → o.dst ≠ some t := fun t ht hd => nobody_iff ht i (by unfold dstOf; simp [ho', hd])
      have hput : ∀ t, o.dst ≠ some t → (a.put o.dst v).tmps[t]? = a.tmps[t]? := fun t ht => by
        cases hd : o.dst with
        | none => rfl
        | some d =>
          simp only [Act.put]
          rw [Array.getElem?_setIfInBounds_ne (fun e => ht (by rw [hd, e]))]
      have hsz : (a.put o.dst v).tmps.size = a.tmps.size := by cases o.dst <;> simp [Act.put]
      refine ⟨hc, by rw [← hI.defers]; cases o.dst <;> rfl, by rw [hsz]; exact hI.size, fun t ht => (hput t (hnot t ht)).trans (hI.same t ht), fun j e he hl => ?_, fun j p hj hl ed hed hb => ?_⟩
      · by_cases hji : j = i
        · subst hji
          have hed : o.dst = some e := by unfold dstOf at he; simp [ho'] at he; exact he
          refine ⟨v, ?_, hv (by rw [hed]; rfl)⟩
          rw [hed]
          simp only [Act.put]
          rw [Array.getElem?_setIfInBounds_self_of_lt (by rw [hI.size]; exact (hdd e hed).1)]
        · rw [getD_set_ne false (Ne.symm hji)] at hl
          obtain ⟨u, hu1, hu2⟩ := hI.slot j e he hl
          refine ⟨u, ?_, hst i j w w' u hji hR hu2⟩
          refine (hput e (fun hd => ?_)).trans hu1
          unfold dstOf at he
          obtain ⟨p, hp, hpd⟩ := Option.bind_eq_some_iff.1 he
          have hp' : l[j]? = some p := by simpa using hp
          rcases Nat.lt_or_ge i j with hlt | hge
          · exact (hdd e hd).2 j p hp' hlt hpd
          · exact ((hsp j p hp').1 e hpd).2 i o ho' (by omega) hd
      · by_cases hji : j = i
        · subst hji
          rw [ho'] at hj
          injection hj with hj
          subst hj
          exact getD_set_true (hall ed hed hb)
        · rw [getD_set_ne false (Ne.symm hji)] at hl
          exact getD_set_true (hI.closed j p hj hl ed hed hb)
  · intro listed a w hs hr hI
    have hallL : ∀ i, i < l.length → listed.getD i false = true := by
      intro i
      induction i using Nat.strongRecOn with
      | _ i ih =>
        intro hi
        by_cases hli : listed.getD i false = true
        · exact hli
        · exfalso
          obtain ⟨o, ho⟩ : ∃ o, l[i]? = some o := ⟨_, List.getElem?_eq_getElem hi⟩
          obtain ⟨_, hback⟩ := hsp i o ho
          have hmem : i ∈ Region.ready .any l.toArray listed := mem_ready.2 ⟨by
            have hlt : i < listed.size := by rw [hs]; simpa using hi
            simp [hlt] at hli ⊢
            exact hli, o, by simpa using ho, fun e he hb => ih e.on (by have := hback e he hb; omega) (by have := hback e he hb; omega)⟩
          rw [hr] at hmem
          cases hmem
    refine ends_of l 0 a0 a _ (hend listed w hallL hI.cls) hB rfl hI.defers hI.size hI.same (fun i d hd => ?_)
    have hi : i < l.length := by
      unfold dstOf at hd
      obtain ⟨p, hp, _⟩ := Option.bind_eq_some_iff.1 hd
      have := (Array.getElem?_eq_some_iff.1 hp).1
      simpa using this
    rw [Nat.zero_add]
    exact hI.slot i d hd (hallL i hi)
  · have hno : ∀ j, (Array.replicate l.toArray.size false).getD j false = false := fun j => by
      rcases Nat.lt_or_ge j l.length with hj | hj
      · simp [hj]
      · simp [Nat.not_lt.2 hj]
    exact ⟨hC, rfl, rfl, fun _ _ => rfl, (fun j d _ h => by rw [hno] at h; cases h), (fun j o _ h => by rw [hno] at h; cases h)⟩
end
end Go.Proofs.YtpdoeapjdifmbaaGreatDoor

namespace Go.Proofs.YtpdoeapjdifmbaaGreatDoor
open Go.RowKit

/-- Slot ib: the one-element slice; ia: the grown one; the others literally. -/
def SB (ib ia g1 : Nat) (PA : World → Value → Prop) (tbl : List Value) (j : Nat) (w : World) (v : Value) : Prop :=
  if j = ib then v = .slice (some ⟨g1, 0, none⟩) 1 1 ∧ g1 < w.heap.size else if j = ia then PA w v else tbl[j]? = some v
def RB (ia iz : Nat) (Z : World → World → Prop) (i : Nat) (w w' : World) : Prop := if i = ia then w.heap.size ≤ w'.heap.size else if i = iz then Z w w' else w.grownBy w' none
def CB (ib ia iz : Nat) (W0 W1 : World) (u0 : Value) (FIN : World → Prop) (ls : Array Bool) (w : World) : Prop :=
  if ls.getD iz false = true then FIN w else if ls.getD ia false = true then W0.grownBy w u0.ownBlock else w = if ls.getD ib false = true then W1 else W0
theorem getD_set_self {ls : Array Bool} {i : Nat} (h : i < ls.size) : (ls.setIfInBounds i true).getD i false = true := by
  rw [Array.getD_eq_getD_getElem?, Array.getElem?_setIfInBounds_self_of_lt h]
  rfl
theorem grown_refl (w : World) (r : Option Nat) : w.grownBy w r := ⟨rfl, rfl, rfl, Nat.le_refl _, fun _ _ _ => rfl⟩
theorem grown_none {w w' : World} {r : Option Nat} (h : w.grownBy w' none) : w.grownBy w' r := ⟨h.os, h.tape, h.output, h.size, fun k hk _ => h.block k hk (by simp)⟩
section
variable {ib ia iz g1 : Nat} {PA : World → Value → Prop} {tbl : List Value} {j i : Nat} {w w' : World} {v : Value} {Z : World → World → Prop} {W0 W1 : World} {u0 : Value} {FIN : World → Prop} {ls : Array Bool}
theorem SB.lit (h : SB ib ia g1 PA tbl j w v) (h1 : j ≠ ib) (h2 : j ≠ ia) : tbl[j]? = some v := by
  unfold SB at h
  rwa [if_neg h1, if_neg h2] at h
theorem SB.mk (h : tbl[j]? = some v) (h1 : j ≠ ib) (h2 : j ≠ ia) : SB ib ia g1 PA tbl j w v := by
  unfold SB
  rwa [if_neg h1, if_neg h2]
theorem SB.one (h : SB ib ia g1 PA tbl ib w v) : v = .slice (some ⟨g1, 0, none⟩) 1 1 ∧ g1 < w.heap.size := by
  unfold SB at h
  rwa [if_pos rfl] at h
theorem SB.mkOne (h : v = .slice (some ⟨g1, 0, none⟩) 1 1) (h' : g1 < w.heap.size) : SB ib ia g1 PA tbl ib w v := by
  unfold SB
  rw [if_pos rfl]
  exact ⟨h, h'⟩
theorem SB.all (h : SB ib ia g1 PA tbl ia w v) (hne : ia ≠ ib) : PA w v := by
  unfold SB at h
  rwa [if_neg hne, if_pos rfl] at h
theorem SB.mkAll (h : PA w v) (hne : ia ≠ ib) : SB ib ia g1 PA tbl ia w v := by
  unfold SB
  rwa [if_neg hne, if_pos rfl]
theorem SB.stands (hP : ∀ w w' v, w.grownBy w' none → PA w v → PA w' v) (hZ : ∀ w w' v, Z w w' → PA w v → PA w' v) (hZs : ∀ w w', Z w w' → w.heap.size ≤ w'.heap.size) (hne : j ≠ i) (hR : RB ia iz Z i w w') (h : SB ib ia g1 PA tbl j w v) : SB ib ia g1 PA tbl j w' v := by
  unfold SB at h ⊢
  unfold RB at hR
  have hs : w.heap.size ≤ w'.heap.size := by
    split at hR
    · exact hR
    · split at hR
      · exact hZs _ _ hR
      · exact hR.size
  by_cases h1 : j = ib
  · rw [if_pos h1] at h ⊢
    exact ⟨h.1, Nat.lt_of_lt_of_le h.2 hs⟩
  · rw [if_neg h1] at h ⊢
    by_cases h2 : j = ia
    · rw [if_pos h2] at h ⊢
      rw [if_neg (fun e => hne (h2.trans e.symm))] at hR
      split at hR
      · exact hZ _ _ _ hR h
      · exact hP _ _ _ hR h
    · rw [if_neg h2] at h ⊢
      exact h
theorem RB.quiet (h : w.grownBy w' none) (h1 : i ≠ ia) (h2 : i ≠ iz) : RB ia iz Z i w w' := by
  unfold RB
  rwa [if_neg h1, if_neg h2]
theorem RB.all (h : w.heap.size ≤ w'.heap.size) : RB ia iz Z ia w w' := by
  unfold RB
  rwa [if_pos rfl]
theorem RB.last (h : Z w w') (hne : iz ≠ ia) : RB ia iz Z iz w w' := by
  unfold RB
  rwa [if_neg hne, if_pos rfl]
theorem CB.start {n : Nat} : CB ib ia iz W0 W1 u0 FIN (Array.replicate n false) W0 := by
  have h : ∀ k, (Array.replicate n false).getD k false = false := fun k => by
    rcases Nat.lt_or_ge k n with hj | hj
    · simp [hj]
    · simp [Nat.not_lt.2 hj]
  unfold CB
  rw [h, h, h, if_neg (by decide), if_neg (by decide), if_neg (by decide)]
theorem CB.keep (h : CB ib ia iz W0 W1 u0 FIN ls w) (h1 : i ≠ ib) (h2 : i ≠ ia) (h3 : i ≠ iz) : CB ib ia iz W0 W1 u0 FIN (ls.setIfInBounds i true) w := by
  unfold CB at h ⊢
  rwa [getD_set_ne false h1, getD_set_ne false h2, getD_set_ne false h3]
theorem CB.grown (h : CB ib ia iz W0 W1 u0 FIN ls w) (hz : ls.getD iz false = false) (h01 : W0.grownBy W1 none) : W0.grownBy w u0.ownBlock := by
  unfold CB at h
  rw [if_neg (by rw [hz]; decide)] at h
  split at h
  · exact h
  · rw [h]
    split
    · exact grown_none h01
    · exact grown_refl _ _
theorem CB.early (h : CB ib ia iz W0 W1 u0 FIN ls w) (hz : ls.getD iz false = false) (ha : ls.getD ia false = false) : w = W1 ∨ w = W0 := by
  unfold CB at h
  rw [if_neg (by rw [hz]; decide), if_neg (by rw [ha]; decide)] at h
  rw [h]
  split
  · exact .inl rfl
  · exact .inr rfl
theorem CB.build (h : CB ib ia iz W0 W1 u0 FIN ls w) (hz : ls.getD iz false = false) (ha : ls.getD ia false = false) (hb : ls.getD ib false = false) (hi : ib < ls.size) (h1 : ia ≠ ib) (h2 : iz ≠ ib) : w = W0 ∧ CB ib ia iz W0 W1 u0 FIN (ls.setIfInBounds ib true) W1 := by
  unfold CB at h ⊢
  rw [if_neg (by rw [hz]; decide), if_neg (by rw [ha]; decide), if_neg (by rw [hb]; decide)] at h
  rw [getD_set_ne false (Ne.symm h1), getD_set_ne false (Ne.symm h2), if_neg (by rw [hz]; decide), if_neg (by rw [ha]; decide), getD_set_self hi, if_pos rfl]
  exact ⟨h, rfl⟩
theorem CB.grow (hz : ls.getD iz false = false) (hi : ia < ls.size) (h1 : iz ≠ ia) (hg : W0.grownBy w u0.ownBlock) : CB ib ia iz W0 W1 u0 FIN (ls.setIfInBounds ia true) w := by
  unfold CB
  rw [getD_set_ne false (Ne.symm h1), if_neg (by rw [hz]; decide), getD_set_self hi, if_pos rfl]
  exact hg
theorem CB.last (hi : iz < ls.size) (hf : FIN w) : CB ib ia iz W0 W1 u0 FIN (ls.setIfInBounds iz true) w := by
  unfold CB
  rw [getD_set_self hi, if_pos rfl]
  exact hf
theorem CB.fin (h : CB ib ia iz W0 W1 u0 FIN ls w) (hz : ls.getD iz false = true) : FIN w := by
  unfold CB at h
  rwa [hz, if_pos rfl] at h
end
end Go.Proofs.YtpdoeapjdifmbaaGreatDoor
