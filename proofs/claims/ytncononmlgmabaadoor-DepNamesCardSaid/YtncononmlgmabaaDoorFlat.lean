/-
  What a row lists of a package-level table (numbers, texts, bools, arrays and structs of these) is what the table's cells hold. Conditions: as each theorem states.
-/
import Derived.OpenShut
import Derived.ChangeArms
import Derived.LaidSub
import Derived.Lib.LaidTab
import Derived.FnData
namespace Go.Proofs.YtncononmlgmabaaDoor

/-- Places (at, how many) that lie one behind the other, from a to z. -/
def cutsB : List (Nat × Nat) → Nat → Nat → Bool
  | [], a, z => a == z
  | (o, s) :: r, a, z => o == a && cutsB r (a + s) z
theorem cuts_join (cs : List Value) : ∀ (l : List (Nat × Nat)) (rs : List (List Value)) (a : Nat), rs.length = l.length → (∀ (i : Nat) (x : Nat × Nat) (r : List Value), l[i]? = some x → rs[i]? = some r → (cs.drop x.1).take x.2 = r) → cutsB l a cs.length = true → cs.drop a = rs.flatten
  | [], rs, a, hl, _, hc => by
    obtain rfl : rs = [] := List.eq_nil_of_length_eq_zero hl
    have : a = cs.length := by simpa [cutsB] using hc
    subst this
    simp
  | (o, s) :: l, [], a, hl, _, _ => by simp at hl
  | (o, s) :: l, r :: rs, a, hl, hx, hc => by
    simp only [cutsB, Bool.and_eq_true, beq_iff_eq] at hc
    obtain ⟨rfl, hc⟩ := hc
    have h0 : (cs.drop o).take s = r := hx 0 (o, s) r rfl rfl
    have h1 := cuts_join cs l rs (o + s) (by simpa using hl) (fun i x r hi hr => hx (i + 1) x r (by simpa using hi) (by simpa using hr)) hc
    rw [List.flatten_cons, ← h1, ← h0, ← List.drop_drop, List.take_append_drop]

/-- The cells of a table, off its reading. -/
def flatC {H : Type} (P : Program) : Nat → TypeId → DataW H → Option (List Value)
  | 0, _, _ => none
  | n + 1, t, d =>
    match P.underlying t, d with
    | some .bool, .lit (.bool b) => some [.bool b]
    | some (.int k), .lit (.int k' z) => if k = k' then some [.int k z] else none
    | some .string, .lit (.string l) => some [.string ⟨l.toArray⟩]
    | some (.array m e), .agg ds => if ds.length = m ∧ cutsB ((List.range m).map fun i => (i * P.cellsOf e, P.cellsOf e)) 0 (P.cellsOf t) = true then (ds.mapM (flatC P n e)).map List.flatten else none
    | some (.struct fs), .agg ds => if ds.length = fs.size ∧ cutsB (fs.toList.map fun f => (f.offset, P.cellsOf f.type)) 0 (P.cellsOf t) = true then ((fs.toList.zip ds).mapM fun x => flatC P n x.1.type x.2).map List.flatten else none
    | _, _ => none

section
variable {H : Type} {enc : TypeId × Value → H} {P : Program} {w : World} {base : Nat} {sp : Nat → Bool} {held : Bool}
theorem flat_cells : ∀ (n : Nat) (t : TypeId) (d : DataW H) (vs : List Value) (fuel : Nat) (cs : List Value) (p : List MemPlace), flatC P n t d = some vs → DataW.trod enc P w base sp held fuel t cs = some (d, p) → cs = vs
  | 0, t, d, vs, fuel, cs, p, h, _ => by simp [flatC] at h
  | n + 1, t, d, vs, fuel, cs, p, h, ht => by
    unfold flatC at h
    split at h
    · rename_i hu
      injection h with h
      subst h
      cases fuel with
      | zero => simp [DataW.trod] at ht
      | succ m =>
        unfold DataW.trod at ht
        rw [hu] at ht
        split at ht <;> simp_all
    · rename_i k k' z hu
      split at h
      · rename_i hk
        subst hk
        injection h with h
        subst h
        obtain ⟨z', e1, e2, _⟩ := DataW.trod_int hu ht
        injection e2 with e2 _
        injection e2 with e2
        injection e2 with _ e2
        subst e2
        exact e1
      · cases h
    · rename_i l hu
      injection h with h
      subst h
      obtain ⟨s, e1, e2, _⟩ := DataW.trod_string hu ht
      injection e2 with e2 _
      injection e2 with e2
      injection e2 with e2
      subst e2
      rw [e1]
    · rename_i m e ds hu
      split at h
      · rename_i hc
        obtain ⟨hl, hc⟩ := hc
        obtain ⟨rs, hrs, rfl⟩ := Option.map_eq_some_iff.1 h
        obtain ⟨xs, f, rfl, hx, hcs, hxl, hall⟩ := DataW.trod_array hu ht
        injection hx with hx _
        injection hx with hx
        subst hx
        have hrl := Lib.mapM_length hrs
        have := cuts_join cs ((List.range m).map fun i => (i * P.cellsOf e, P.cellsOf e)) rs 0 (by simp at hrl ⊢; omega) (fun i x r hi hr => by
          obtain ⟨j, hj, rfl⟩ : ∃ j, (List.range m)[i]? = some j ∧ (j * P.cellsOf e, P.cellsOf e) = x := by simpa using hi
          obtain ⟨him, hj⟩ := List.getElem?_eq_some_iff.1 hj
          simp at him hj
          subst hj
          have hxi := hall i him
          obtain ⟨y, hy⟩ : ∃ y, xs[i]? = some y := ⟨_, List.getElem?_eq_getElem (by omega)⟩
          rw [hy] at hxi
          obtain ⟨b, hb, hf⟩ := Lib.mapM_at hrs i y.1 (by simp [hy])
          obtain rfl := Option.some.inj (hr.symm.trans hb)
          exact flat_cells n e y.1 _ f _ y.2 hf hxi) (by rw [hcs]; exact hc)
        simpa using this
      · cases h
    · rename_i fs ds hu
      split at h
      · rename_i hc
        obtain ⟨hl, hc⟩ := hc
        obtain ⟨rs, hrs, rfl⟩ := Option.map_eq_some_iff.1 h
        obtain ⟨xs, f, rfl, hx, hcs, hxl, hall⟩ := DataW.trod_struct hu ht
        injection hx with hx _
        injection hx with hx
        subst hx
        have hrl := Lib.mapM_length hrs
        have hxl' : xs.length = fs.size := by simpa using hl
        have := cuts_join cs (fs.toList.map fun f => (f.offset, P.cellsOf f.type)) rs 0 (by simp at hrl ⊢; omega) (fun i x r hi hr => by
          obtain ⟨g, hg, rfl⟩ : ∃ g, fs.toList[i]? = some g ∧ (g.offset, P.cellsOf g.type) = x := by simpa using hi
          have hxi := hall i g (by simpa using hg)
          obtain ⟨him, _⟩ := List.getElem?_eq_some_iff.1 hg
          simp at him
          obtain ⟨y, hy⟩ : ∃ y, xs[i]? = some y := ⟨_, List.getElem?_eq_getElem (by omega)⟩
          rw [hy] at hxi
          obtain ⟨b, hb, hf⟩ := Lib.mapM_at hrs i (g, y.1) (List.getElem?_zip_eq_some.2 ⟨hg, by simp [hy]⟩)
          obtain rfl := Option.some.inj (hr.symm.trans hb)
          exact flat_cells n g.type y.1 _ f _ y.2 hf hxi) (by rw [hcs]; exact hc)
        simpa using this
      · cases h
    · cases h
end

/-- What a row lists of one variable, as the variable's cells. -/
theorem laid_cells {P : Program} {W : World} {name : String} {d : DataW Unit} {rest : List (String × DataW Unit)} {g : Nat} {t : TypeId} {vs : List Value} (n : Nat)
    (hg : P.globalNamed name = some g) (hty : (P.globals[g]?).map (·.type) = some t) (hf : flatC P n t d = some vs) (h : laidMet P ((name, d) :: rest) W) : ∀ i, W.cell? ⟨g, i, none⟩ = vs[i]? := by
  obtain ⟨ps, ⟨g', t', cs, fuel, p, q, hg', ht', hvar, hd, _, _⟩, _⟩ := h
  obtain rfl := Option.some.inj (hg.symm.trans hg')
  obtain rfl := Option.some.inj (hty.symm.trans ht')
  intro i
  rw [World.var?_cell hg hvar i, ← flat_cells n t d vs fuel cs.toList p hf hd]
  simp
end Go.Proofs.YtncononmlgmabaaDoor
